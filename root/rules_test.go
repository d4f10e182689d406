package root_test

import (
	"strconv"
	"testing"

	"reckoner/api"
	"reckoner/internal/oracle"
	"reckoner/nat"
	"reckoner/root"
)

// number returns i as a number.
func number(i int) api.Nat {
	return nat.FromWord(uint64(i))
}

// truth returns b as a number.
func truth(b bool) api.Nat {
	if b {
		return api.Nat{1}
	}
	return nil
}

// ofOne is a call of a function of one number.
func ofOne(name string, f func(x api.Nat) ([]api.Nat, api.Errno)) oracle.Call {
	return oracle.Call{Name: name, Numbers: 1, Do: func(l []api.Nat) ([]api.Nat, api.Errno) { return f(l[0]) }}
}

// ofTwo is a call of a function of two numbers.
func ofTwo(name string, f func(x, y api.Nat) ([]api.Nat, api.Errno)) oracle.Call {
	return oracle.Call{Name: name, Numbers: 2, Do: func(l []api.Nat) ([]api.Nat, api.Errno) { return f(l[0], l[1]) }}
}

// calls are calls of all functions.
func calls() []oracle.Call {
	list := []oracle.Call{
		ofOne("Sqrt", func(x api.Nat) ([]api.Nat, api.Errno) {
			s, rest, e := root.Sqrt(x)
			return []api.Nat{s, rest}, e
		}),
		ofOne("Halving", func(x api.Nat) ([]api.Nat, api.Errno) {
			s, rest, e := root.Halving(x)
			return []api.Nat{s, rest}, e
		}),
		ofOne("Newton", func(x api.Nat) ([]api.Nat, api.Errno) {
			s, e := root.Newton(x)
			return []api.Nat{s}, e
		}),
		ofOne("IsSquare", func(x api.Nat) ([]api.Nat, api.Errno) {
			is, e := root.IsSquare(x)
			return []api.Nat{truth(is)}, e
		}),
		ofOne("Maybe", func(x api.Nat) ([]api.Nat, api.Errno) {
			is, e := root.Maybe(x)
			return []api.Nat{truth(is)}, e
		}),
		ofOne("Power", func(x api.Nat) ([]api.Nat, api.Errno) {
			b, k, e := root.Power(x)
			return []api.Nat{b, number(k)}, e
		}),
		ofTwo("Log", func(x, base api.Nat) ([]api.Nat, api.Errno) {
			k, e := root.Log(x, base)
			return []api.Nat{number(k)}, e
		}),
		ofTwo("Steps", root.Steps),
		ofOne("Steps from 2^4096 - 1", func(x api.Nat) ([]api.Nat, api.Errno) { return root.Steps(x, ones(64)) }),
	}
	for _, k := range []int{-1, 0, 1, 2, 3, 17, 1000, 1000000, 1000001} {
		list = append(list, ofOne("Root by "+strconv.Itoa(k), func(x api.Nat) ([]api.Nat, api.Errno) {
			s, rest, e := root.Root(x, k)
			return []api.Nat{s, rest}, e
		}), ofOne("Nearest by "+strconv.Itoa(k), func(x api.Nat) ([]api.Nat, api.Errno) {
			s, e := root.Nearest(x, k)
			return []api.Nat{s}, e
		}))
	}
	for _, c := range [][2]int{{1, 0}, {1, 70}, {2, 5}, {3, 100}, {100, 9999}, {0, 5}, {5, -1}} {
		list = append(list, ofTwo("Ratio by "+strconv.Itoa(c[0])+" with "+strconv.Itoa(c[1]), func(x, y api.Nat) ([]api.Nat, api.Errno) {
			s, e := root.Ratio(x, y, c[0], c[1])
			return []api.Nat{s}, e
		}))
	}
	return list
}

// R2, R3, R4, R7, for all functions, with 0, small and long numbers, squares and other powers.
func TestRules(t *testing.T) {
	m := oracle.Mixer(149)
	some := []api.Nat{nil, {0}, {1}, {1, 0}, {6}, {64}, {top, 7}, {0, 0, half}, {5, 6, 0, 0}, pow(api.Nat{6}, 100), times(ones(5), ones(5)), m.Row(9), m.Row(70), m.Row(130)}
	for _, c := range calls() {
		c.CheckRules(t, some)
	}
}

// The chapter's examples.
func TestExamples(t *testing.T) {
	s, rest, e := root.Sqrt(api.Nat{99})
	check(t, s, e, api.Nat{9}, "Sqrt")
	check(t, rest, e, api.Nat{18}, "rest of Sqrt")
	s, rest, e = root.Root(api.Nat{1000}, 3)
	check(t, s, e, api.Nat{10}, "Root")
	check(t, rest, e, nil, "rest of Root")
	s, e = root.Nearest(api.Nat{7}, 2)
	check(t, s, e, api.Nat{3}, "Nearest")
	s, k, e := root.Power(api.Nat{64})
	check(t, s, e, api.Nat{2}, "Power")
	if k != 6 {
		t.Errorf("Power: exponent %d", k)
	}
	k, e = root.Log(api.Nat{1000}, api.Nat{10})
	check(t, number(k), e, api.Nat{3}, "Log")
	l, e := root.Steps(api.Nat{100}, api.Nat{100})
	if e != api.OK || !oracle.Same(l, []api.Nat{{100}, {50}, {26}, {14}, {10}}) {
		t.Errorf("Steps: error %d,%s", e, shown(l...))
	}
	s, e = root.Ratio(api.Nat{2}, api.Nat{1}, 2, 10)
	check(t, s, e, api.Nat{1448}, "Ratio")
}
