package prime_test

import (
	"strconv"
	"testing"

	"reckoner/api"
	"reckoner/internal/oracle"
	"reckoner/prime"
)

// ofOne is a call of a test of one number.
func ofOne(name string, f func(n api.Nat) (bool, api.Errno)) oracle.Call {
	return oracle.Call{Name: name, Numbers: 1, Do: func(l []api.Nat) ([]api.Nat, api.Errno) {
		is, e := f(l[0])
		return []api.Nat{oracle.Truth(is)}, e
	}}
}

// calls are calls of all functions of long numbers.
func calls() []oracle.Call {
	list := []oracle.Call{
		ofOne("PassesLucas", prime.PassesLucas),
		ofOne("IsLikely", prime.IsLikely),
		oracle.OfTwo("Passes", func(n, a api.Nat) ([]api.Nat, api.Errno) {
			is, e := prime.Passes(n, a)
			return []api.Nat{oracle.Truth(is)}, e
		}),
	}
	for _, c := range [][2]int{{1, -1}, {-million, million}, {0, 3}, {million + 1, 0}, {3, -million - 1}} {
		list = append(list, oracle.OfTwo("Lucas by "+strconv.Itoa(c[0])+" and "+strconv.Itoa(c[1]), func(n, k api.Nat) ([]api.Nat, api.Errno) {
			u, v, e := prime.Lucas(c[0], c[1], k, n)
			return []api.Nat{u, v}, e
		}))
	}
	return list
}

// R2, R3, R4, R7, for all functions of long numbers, with 0, small and long ones.
func TestRules(t *testing.T) {
	m := oracle.Mixer(37)
	some := []api.Nat{ones(5), {2}, {2047}, nil, {7, 0}, {0}, less(alone(127)), {3}, {5, 6, 0, 0}, {1}, m.Row(3), {1, 0}, {top, 0}, {5459}, m.Row(40), {0, 0, half}, {9}}
	for _, c := range calls() {
		c.CheckRules(t, some)
	}
}

// The chapter's examples.
func TestExamples(t *testing.T) {
	checkFactor(t, 360, []uint64{2, 2, 2, 3, 3, 5})
	checkProof(t, prime.Proof{N: 11, Base: 2, Parts: []prime.Proof{leaf(2), leaf(5)}}, true)
	checkNext(t, 13, 17)
	checkPhi(t, 36, 12)
	is, e := prime.Passes(api.Nat{2047}, api.Nat{2})
	checkTruth(t, is, e, true, "Passes")
	is, e = prime.PassesLucas(api.Nat{2047})
	checkTruth(t, is, e, false, "PassesLucas")
	if prime.IsPrime(2047) {
		t.Errorf("IsPrime(2047): true")
	}
	if x, is, e := prime.Root(2, 7); e != api.OK || !is || x != 3 {
		t.Errorf("Root: error %d, %d, %v", e, x, is)
	}
	if g, e := prime.Generator(7); e != api.OK || g != 3 {
		t.Errorf("Generator: error %d, %d", e, g)
	}
	checkLucas(t, 1, -1, api.Nat{10}, api.Nat{1000}, api.Nat{55}, api.Nat{123})
}
