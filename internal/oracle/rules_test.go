package oracle_test

import (
	"testing"

	"reckoner/api"
	"reckoner/internal/oracle"
)

// counter counts what is reported to it.
type counter struct {
	reports int
}

func (c *counter) Helper() {}

func (c *counter) Errorf(string, ...any) {
	c.reports++
}

// reports returns how many reports the checks of a call make, each of them.
func reports(f func(l []api.Nat) ([]api.Nat, api.Errno)) [4]int {
	call := oracle.Call{Name: "a call", Numbers: 2, Do: f}
	var n [4]int
	for i, check := range []func(t oracle.Reporter, l []api.Nat){call.CheckResult, call.CheckTooLong, call.CheckZeros, call.CheckMemory} {
		var c counter
		check(&c, []api.Nat{{5, 6}, {7}})
		n[i] = c.reports
	}
	return n
}

// tooLong tells whether one of the numbers has too many words.
func tooLong(l []api.Nat) bool {
	return max(len(l[0]), len(l[1])) > api.MaxWords
}

// A call that keeps the rules is not reported.
func TestRulesKept(t *testing.T) {
	got := reports(func(l []api.Nat) ([]api.Nat, api.Errno) {
		if tooLong(l) {
			return nil, api.ErrSize
		}
		return []api.Nat{{l[0][0] + l[1][0]}, {l[1][0]}}, api.OK
	})
	if got != [4]int{} {
		t.Errorf("reports of a call that keeps the rules: %v", got)
	}
}

// A call that breaks a rule is reported by the check of that rule.
func TestRulesBroken(t *testing.T) {
	calls := 0
	for _, c := range []struct {
		name  string
		check int
		do    func(l []api.Nat) ([]api.Nat, api.Errno)
	}{
		{"a result that is not canonical", 0, func(l []api.Nat) ([]api.Nat, api.Errno) { return []api.Nat{{1, 0}}, api.OK }},
		{"a result beside an error", 0, func(l []api.Nat) ([]api.Nat, api.Errno) { return []api.Nat{nil, {1}}, api.ErrArg }},
		{"no error of a number that is too long", 1, func(l []api.Nat) ([]api.Nat, api.Errno) { return nil, api.OK }},
		{"a result beside ErrSize", 1, func(l []api.Nat) ([]api.Nat, api.Errno) { return []api.Nat{{1}}, api.ErrSize }},
		{"a result that depends on zeros", 2, func(l []api.Nat) ([]api.Nat, api.Errno) { return []api.Nat{{uint64(len(l[1]))}}, api.OK }},
		{"an argument that is returned", 3, func(l []api.Nat) ([]api.Nat, api.Errno) { return l[:1], api.OK }},
		{"results that share memory", 3, func(l []api.Nat) ([]api.Nat, api.Errno) {
			z := api.Nat{1, 2}
			return []api.Nat{z[:1], z[1:]}, api.OK
		}},
		{"an argument that is changed", 3, func(l []api.Nat) ([]api.Nat, api.Errno) {
			l[1][0] = 1
			return nil, api.OK
		}},
		{"memory beyond an argument that is changed", 3, func(l []api.Nat) ([]api.Nat, api.Errno) {
			_ = append(l[0], 1)
			return nil, api.OK
		}},
		{"a result that changes", 3, func(l []api.Nat) ([]api.Nat, api.Errno) {
			calls++
			return []api.Nat{{uint64(calls)}}, api.OK
		}},
	} {
		if got := reports(c.do); got[c.check] == 0 {
			t.Errorf("%s: not reported", c.name)
		}
	}
}

// Calls of shared memory, and all rules at once: none is reported of a call that keeps them, and each of one that breaks it.
func TestAllRules(t *testing.T) {
	sum := func(l []api.Nat) ([]api.Nat, api.Errno) {
		if tooLong(l) {
			return nil, api.ErrSize
		}
		return []api.Nat{oracle.Plus(l[0], l[1])}, api.OK
	}
	for _, c := range []struct {
		name string
		want bool
		do   func(l []api.Nat) ([]api.Nat, api.Errno)
	}{
		{"a call that keeps the rules", false, sum},
		{"a result that depends on the memory", true, func(l []api.Nat) ([]api.Nat, api.Errno) {
			if z, e := sum(l); len(l[0]) == 0 || len(l[1]) == 0 || &l[0][0] != &l[1][0] {
				return z, e
			}
			return nil, api.ErrArg
		}},
		{"an argument that is returned", true, func(l []api.Nat) ([]api.Nat, api.Errno) {
			z, e := sum(l)
			if e == api.OK && len(z[0]) == len(l[0]) {
				z[0] = l[0]
			}
			return z, e
		}},
		{"no error of a number that is too long", true, func(l []api.Nat) ([]api.Nat, api.Errno) { return nil, api.OK }},
		{"a result that depends on zeros", true, func(l []api.Nat) ([]api.Nat, api.Errno) {
			if tooLong(l) {
				return nil, api.ErrSize
			}
			return []api.Nat{oracle.Plus(nil, api.Nat{uint64(len(l[1]))})}, api.OK
		}},
		{"a result that is not canonical", true, func(l []api.Nat) ([]api.Nat, api.Errno) {
			if tooLong(l) {
				return nil, api.ErrSize
			}
			return []api.Nat{{0}}, api.OK
		}},
	} {
		var n counter
		oracle.Call{Name: "a call", Numbers: 2, Do: c.do}.CheckRules(&n, []api.Nat{nil, {5, 6}, {7}, {1, 1}})
		if n.reports > 0 != c.want {
			t.Errorf("%s: %d reports", c.name, n.reports)
		}
	}
}

// Checks of a single result report just what is not as it should be.
func TestCheckAndFails(t *testing.T) {
	one, other := api.Nat{1}, api.Nat{2}
	for _, c := range []struct {
		name  string
		check func(c *counter)
		want  int
	}{
		{"the number", func(c *counter) { oracle.Check(c, one, api.OK, one, "a call") }, 0},
		{"another number", func(c *counter) { oracle.Check(c, other, api.OK, one, "a call", one) }, 1},
		{"a number that is not canonical", func(c *counter) { oracle.Check(c, api.Nat{1, 0}, api.OK, one, "a call") }, 1},
		{"an error", func(c *counter) { oracle.Check(c, one, api.ErrArg, one, "a call") }, 1},
		{"the error", func(c *counter) { oracle.Fails(c, []api.Nat{nil, {}}, api.ErrArg, api.ErrArg, "a call") }, 0},
		{"another error", func(c *counter) { oracle.Fails(c, nil, api.ErrSize, api.ErrArg, "a call") }, 1},
		{"a number beside the error", func(c *counter) { oracle.Fails(c, []api.Nat{nil, one}, api.ErrArg, api.ErrArg, "a call") }, 1},
	} {
		var n counter
		if c.check(&n); n.reports != c.want {
			t.Errorf("%s: %d reports", c.name, n.reports)
		}
	}
}

// What numbers look like.
func TestShown(t *testing.T) {
	if got := oracle.Shown(api.Nat{10, 11}, nil); got != " [a b of 2] [of 0]" {
		t.Errorf("Shown:%s", got)
	}
}

// A call of two numbers takes them in order.
func TestOfTwo(t *testing.T) {
	c := oracle.OfTwo("a call", func(x, y api.Nat) ([]api.Nat, api.Errno) {
		return []api.Nat{x, y, oracle.Truth(true), oracle.Truth(false)}, api.ErrArg
	})
	l := []api.Nat{{5}, {6}}
	if got, e := c.Do(l); c.Name != "a call" || c.Numbers != 2 || e != api.ErrArg || !oracle.Same(got, append(l, api.Nat{1}, nil)) {
		t.Errorf("a call of two numbers: error %d,%s", e, oracle.Shown(got...))
	}
}
