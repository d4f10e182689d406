package modular_test

import (
	"strconv"
	"testing"

	"reckoner/api"
	"reckoner/internal/oracle"
	"reckoner/modular"
)

// single returns one number as the results of a call.
func single(z api.Nat, e api.Errno) ([]api.Nat, api.Errno) {
	return []api.Nat{z}, e
}

// pair returns two numbers as the results of a call.
func pair(x, y api.Nat, e api.Errno) ([]api.Nat, api.Errno) {
	return []api.Nat{x, y}, e
}

// callsOfOne are calls of the functions of one number and a modulus.
func callsOfOne() []oracle.Call {
	list := []oracle.Call{
		ofModulus("Inverse", 1, func(n api.Nat, l ...api.Nat) ([]api.Nat, api.Errno) { return single(modular.Inverse(l[0], n)) }),
		ofModulus("Barrett", 1, func(n api.Nat, l ...api.Nat) ([]api.Nat, api.Errno) { return single(modular.Barrett(l[0], n)) }),
		ofModulus("Jacobi", 1, func(n api.Nat, l ...api.Nat) ([]api.Nat, api.Errno) {
			z, e := modular.Jacobi(l[0], n)
			return []api.Nat{number(max(z, -z)), oracle.Truth(z < 0)}, e
		}),
	}
	for name, f := range montgomeryCalls() {
		list = append(list, ofModulus(name, 1, func(n api.Nat, l ...api.Nat) ([]api.Nat, api.Errno) { return single(f(l[0], n)) }))
	}
	return list
}

// callsOfTwo are calls of the functions of two numbers and a modulus.
func callsOfTwo() []oracle.Call {
	list := []oracle.Call{
		ofModulus("Solve", 2, func(n api.Nat, l ...api.Nat) ([]api.Nat, api.Errno) { return pair(modular.Solve(l[0], l[1], n)) }),
		ofModulus("Order", 2, func(n api.Nat, l ...api.Nat) ([]api.Nat, api.Errno) { return single(modular.Order(l[0], n, l[1])) }),
		ofModulus("Window of 9", 2, func(n api.Nat, l ...api.Nat) ([]api.Nat, api.Errno) { return single(modular.Window(l[0], l[1], n, 9)) }),
	}
	for name, f := range callsOfTwoResidues() {
		list = append(list, ofModulus(name, 2, func(n api.Nat, l ...api.Nat) ([]api.Nat, api.Errno) { return single(f(l[0], l[1], n)) }))
	}
	for name, f := range powers() {
		list = append(list, ofModulus(name, 2, func(n api.Nat, l ...api.Nat) ([]api.Nat, api.Errno) { return single(f(l[0], l[1], n)) }))
	}
	return list
}

// callsOfMany are calls of Remainders with so many remainders and moduli.
func callsOfMany() []oracle.Call {
	var list []oracle.Call
	for n := 1; n < 4; n++ {
		list = append(list, oracle.Call{Name: "Remainders by first numbers, of " + strconv.Itoa(n), Numbers: 2 * n, Do: func(l []api.Nat) ([]api.Nat, api.Errno) { return pair(modular.Remainders(l[n:], l[:n])) }})
	}
	return append(list, oracle.Call{Name: "Remainders of 3 by 2", Numbers: 5, Do: func(l []api.Nat) ([]api.Nat, api.Errno) { return pair(modular.Remainders(l[:3], l[3:])) }})
}

// R2, R3, R4, R7, for all functions, with 0, small and long numbers, as moduli and as residues.
func TestRules(t *testing.T) {
	m := oracle.Mixer(71)
	some := []api.Nat{ones(9), {7, 0}, {1}, nil, {6}, {0}, {top, 7}, {3}, {64}, {0, 0, half}, {1, 0}, {5, 6, 0, 0}, m.Row(7), {2}, ones(5), m.Row(70), {5}}
	calls := append(callsOfOne(), callsOfTwo()...)
	for _, c := range append(calls, callsOfMany()...) {
		c.CheckRules(t, some)
	}
}

// R3, R4, R7: numbers of which none gives an error, one behind the other.
func TestRulesOfResidues(t *testing.T) {
	for _, n := range []api.Nat{{7}, {top}, {5, 6, 0}, ones(5)} {
		for _, c := range append(callsOfOne(), callsOfTwo()...) {
			for _, x := range []api.Nat{{1}, {2, 0}, {6}} {
				l := []api.Nat{n, x, {6, 0}}[:c.Numbers]
				c.CheckResult(t, l)
				c.CheckMemory(t, l)
				c.CheckZeros(t, l)
				c.CheckTooLong(t, l)
			}
		}
	}
	for _, c := range callsOfMany() {
		for _, n := range []api.Nat{{7}, {3, 0}, {9}} {
			l := []api.Nat{n, {10}, {13, 5}, {2}, {2, 0}, {2, 0, 0}}[:c.Numbers]
			c.CheckMemory(t, l)
			c.CheckZeros(t, l)
		}
	}
}

// R4: lists are not changed.
func TestListsAreNotChanged(t *testing.T) {
	l, list := []api.Nat{{2, 0}, {3}, {0}}, []api.Nat{{3}, {5, 0}, {8, 0, 0}}
	l2, list2 := oracle.Copies(l), oracle.Copies(list)
	checkRemainders(t, l, list, api.Nat{8}, api.Nat{120})
	if !oracle.Same(l, l2) || !oracle.Same(list, list2) {
		t.Errorf("Remainders changes its lists:%s", shown(append(l, list...)...))
	}
}

// The chapter's examples.
func TestExamples(t *testing.T) {
	z, e := modular.Pow(api.Nat{2}, api.Nat{10}, api.Nat{1000})
	check(t, z, e, api.Nat{24}, "Pow")
	z, e = modular.Inverse(api.Nat{3}, api.Nat{10})
	check(t, z, e, api.Nat{7}, "Inverse")
	z, step, e := modular.Solve(api.Nat{4}, api.Nat{2}, api.Nat{6})
	check(t, z, e, api.Nat{2}, "Solve")
	check(t, step, e, api.Nat{3}, "step of Solve")
	checkRemainders(t, numbers(2, 3), numbers(3, 5), api.Nat{8}, api.Nat{15})
	failsRemainders(t, numbers(1, 2), numbers(4, 6), api.ErrNone)
	z, e = modular.Enter(api.Nat{1}, api.Nat{3})
	check(t, z, e, api.Nat{1}, "Enter")
	z, e = modular.Redc(api.Nat{0, 1}, api.Nat{3})
	check(t, z, e, api.Nat{1}, "Redc")
	symbol, e := modular.Jacobi(api.Nat{2}, api.Nat{15})
	if e != api.OK || symbol != 1 {
		t.Errorf("Jacobi: error %d, %d", e, symbol)
	}
	z, e = modular.Order(api.Nat{2}, api.Nat{7}, api.Nat{6})
	check(t, z, e, api.Nat{3}, "Order")
}
