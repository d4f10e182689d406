package oracle_test

import (
	"testing"

	"reckoner/api"
	"reckoner/internal/oracle"
)

// counter counts what is reported to it.
type counter struct {
	reports int
}

func (c *counter) Helper() {}

func (c *counter) Errorf(string, ...any) {
	c.reports++
}

// reports returns how many reports the checks of a call make, each of them.
func reports(f func(l []api.Nat) ([]api.Nat, api.Errno)) [4]int {
	call := oracle.Call{Name: "a call", Numbers: 2, Do: f}
	var n [4]int
	for i, check := range []func(t oracle.Reporter, l []api.Nat){call.CheckResult, call.CheckTooLong, call.CheckZeros, call.CheckMemory} {
		var c counter
		check(&c, []api.Nat{{5, 6}, {7}})
		n[i] = c.reports
	}
	return n
}

// tooLong tells whether one of the numbers has too many words.
func tooLong(l []api.Nat) bool {
	return max(len(l[0]), len(l[1])) > api.MaxWords
}

// A call that keeps the rules is not reported.
func TestRulesKept(t *testing.T) {
	got := reports(func(l []api.Nat) ([]api.Nat, api.Errno) {
		if tooLong(l) {
			return nil, api.ErrSize
		}
		return []api.Nat{{l[0][0] + l[1][0]}, {l[1][0]}}, api.OK
	})
	if got != [4]int{} {
		t.Errorf("reports of a call that keeps the rules: %v", got)
	}
}

// A call that breaks a rule is reported by the check of that rule.
func TestRulesBroken(t *testing.T) {
	calls := 0
	for _, c := range []struct {
		name  string
		check int
		do    func(l []api.Nat) ([]api.Nat, api.Errno)
	}{
		{"a result that is not canonical", 0, func(l []api.Nat) ([]api.Nat, api.Errno) { return []api.Nat{{1, 0}}, api.OK }},
		{"a result beside an error", 0, func(l []api.Nat) ([]api.Nat, api.Errno) { return []api.Nat{nil, {1}}, api.ErrArg }},
		{"no error of a number that is too long", 1, func(l []api.Nat) ([]api.Nat, api.Errno) { return nil, api.OK }},
		{"a result beside ErrSize", 1, func(l []api.Nat) ([]api.Nat, api.Errno) { return []api.Nat{{1}}, api.ErrSize }},
		{"a result that depends on zeros", 2, func(l []api.Nat) ([]api.Nat, api.Errno) { return []api.Nat{{uint64(len(l[1]))}}, api.OK }},
		{"an argument that is returned", 3, func(l []api.Nat) ([]api.Nat, api.Errno) { return l[:1], api.OK }},
		{"results that share memory", 3, func(l []api.Nat) ([]api.Nat, api.Errno) {
			z := api.Nat{1, 2}
			return []api.Nat{z[:1], z[1:]}, api.OK
		}},
		{"an argument that is changed", 3, func(l []api.Nat) ([]api.Nat, api.Errno) {
			l[1][0] = 1
			return nil, api.OK
		}},
		{"memory beyond an argument that is changed", 3, func(l []api.Nat) ([]api.Nat, api.Errno) {
			_ = append(l[0], 1)
			return nil, api.OK
		}},
		{"a result that changes", 3, func(l []api.Nat) ([]api.Nat, api.Errno) {
			calls++
			return []api.Nat{{uint64(calls)}}, api.OK
		}},
	} {
		if got := reports(c.do); got[c.check] == 0 {
			t.Errorf("%s: not reported", c.name)
		}
	}
}

// What numbers look like.
func TestShown(t *testing.T) {
	if got := oracle.Shown(api.Nat{10, 11}, nil); got != " [a b of 2] [of 0]" {
		t.Errorf("Shown:%s", got)
	}
}
