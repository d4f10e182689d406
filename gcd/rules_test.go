package gcd_test

import (
	"slices"
	"strconv"
	"testing"

	"reckoner/api"
	"reckoner/gcd"
	"reckoner/internal/oracle"
	"reckoner/nat"
)

// number returns n as a number.
func number(n int) api.Nat {
	return nat.FromWord(uint64(n))
}

// callsOfTwo are calls of all functions of two numbers.
func callsOfTwo() []oracle.Call {
	list := []oracle.Call{
		oracle.OfTwo("Lcm", func(a, b api.Nat) ([]api.Nat, api.Errno) {
			z, e := gcd.Lcm(a, b)
			return []api.Nat{z}, e
		}),
		oracle.OfTwo("Extended", func(a, b api.Nat) ([]api.Nat, api.Errno) {
			g, x, y, e := gcd.Extended(a, b)
			return []api.Nat{g, x.Mag, y.Mag, oracle.Truth(x.Neg), oracle.Truth(y.Neg)}, e
		}),
		oracle.OfTwo("Quotients", gcd.Quotients),
		oracle.OfTwo("Steps", func(a, b api.Nat) ([]api.Nat, api.Errno) {
			n, e := gcd.Steps(a, b)
			return []api.Nat{number(n)}, e
		}),
		oracle.OfTwo("Half", func(a, b api.Nat) ([]api.Nat, api.Errno) {
			l, c, d, e := gcd.Half(a, b)
			return append(l, c, d), e
		}),
	}
	for name, f := range ways() {
		list = append(list, oracle.OfTwo(name, func(a, b api.Nat) ([]api.Nat, api.Errno) {
			z, e := f(a, b)
			return []api.Nat{z}, e
		}))
	}
	return list
}

// callsOfMany are calls of all functions of a list, with so many numbers, alone or behind others.
func callsOfMany(n int, before []api.Nat) []oracle.Call {
	list := []oracle.Call{
		{Name: "All", Do: func(l []api.Nat) ([]api.Nat, api.Errno) {
			z, e := gcd.All(l)
			return []api.Nat{z}, e
		}},
		{Name: "Continuant", Do: func(l []api.Nat) ([]api.Nat, api.Errno) {
			z, e := gcd.Continuant(l)
			return []api.Nat{z}, e
		}},
		{Name: "Matrix", Do: func(l []api.Nat) ([]api.Nat, api.Errno) {
			m, e := gcd.Matrix(l)
			return m[:], e
		}},
		{Name: "Coprime", Do: func(l []api.Nat) ([]api.Nat, api.Errno) {
			is, e := gcd.Coprime(l)
			return []api.Nat{oracle.Truth(is)}, e
		}},
		{Name: "Base", Do: gcd.Base},
	}
	for i, c := range list {
		list[i] = oracle.Call{Name: c.Name + " of " + strconv.Itoa(n) + " behind " + strconv.Itoa(len(before)), Numbers: n, Do: func(l []api.Nat) ([]api.Nat, api.Errno) { return c.Do(append(slices.Clone(before), l...)) }}
	}
	return list
}

// R2, R3, R4, R7, for all functions, with 0, small and long numbers, and lists of some and of too many.
func TestRules(t *testing.T) {
	m := oracle.Mixer(251)
	some := []api.Nat{nil, {0}, {1}, {1, 0}, {6}, {64}, {top, 7}, {0, 0, half}, {5, 6, 0, 0}, oracle.Pow(api.Nat{6}, 100), times(ones(5), ones(5)), m.Row(9), m.Row(40), m.Row(70)}
	calls := callsOfTwo()
	for n := 1; n < 5; n++ {
		calls = append(calls, callsOfMany(n, nil)...)
	}
	calls = append(calls, callsOfMany(2, make([]api.Nat, 99))...)
	calls = append(calls, callsOfMany(1, make([]api.Nat, 1000))...)
	calls = append(calls, callsOfMany(1, make([]api.Nat, 10000))...)
	for _, c := range calls {
		c.CheckRules(t, some)
	}
}

// R4: a list is not changed, and numbers that are not taken apart are not those of the list.
func TestListsAreNotChanged(t *testing.T) {
	l := []api.Nat{{9, 0}, {5}, {1}, {7}, {7}}
	kept := oracle.Copies(l)
	got, e := gcd.Base(l[:4])
	checkList(t, got, e, words(5, 7, 9), "Base", l...)
	for _, z := range got {
		z[0] = 11
	}
	if _, e := gcd.Continuant(l[:2]); e != api.OK || !oracle.Same(l, kept) {
		t.Errorf("lists are changed: error %d,%s", e, shown(l...))
	}
}

// The chapter's examples.
func TestExamples(t *testing.T) {
	twelve, eighteen := api.Nat{12}, api.Nat{18}
	z, e := gcd.Euclid(twelve, eighteen)
	oracle.Check(t, z, e, api.Nat{6}, "Euclid")
	g, x, y, e := gcd.Extended(twelve, eighteen)
	checkList(t, []api.Nat{g, x.Mag, y.Mag}, e, words(6, 2, 1), "Extended")
	if x.Neg || !y.Neg {
		t.Errorf("Extended: signs %v, %v", x.Neg, y.Neg)
	}
	z, e = gcd.Lcm(twelve, eighteen)
	oracle.Check(t, z, e, api.Nat{36}, "Lcm")
	l, e := gcd.Quotients(eighteen, twelve)
	checkList(t, l, e, words(1, 2), "Quotients")
	z, e = gcd.Continuant(words(1, 2))
	oracle.Check(t, z, e, api.Nat{3}, "Continuant")
	l, c, d, e := gcd.Half(api.Nat{144}, api.Nat{89})
	checkList(t, append(l, c, d), e, words(1, 1, 1, 1, 21, 13), "Half")
	l, e = gcd.Base(words(4, 6))
	checkList(t, l, e, words(2, 3), "Base")
	l, e = gcd.Base(words(4, 9))
	checkList(t, l, e, words(4, 9), "Base")
}
