package modular

import (
	"iter"

	"reckoner/api"
	"reckoner/nat"
)

// maxMultiple is the greatest multiple of an order that a caller may know.
const maxMultiple = 1000000000

// primes gives the prime factors of k, which is not 0, each once.
func primes(k uint64) iter.Seq[uint64] {
	return func(yield func(uint64) bool) {
		rest := k
		for p := uint64(2); p*p <= rest; p++ {
			if rest%p > 0 {
				continue
			}
			for rest%p == 0 {
				rest /= p
			}
			if !yield(p) {
				return
			}
		}
		if rest > 1 {
			yield(rest)
		}
	}
}

// leavesOne tells whether the residue x to the power of k is 1 modulo n.
func (m modulus) leavesOne(x api.Nat, k uint64) bool {
	z := m.power(x, nat.FromWord(k), 1)
	return nat.Cmp(z, m.unit()) == 0
}

// Order returns the least k >= 1 with x^k = 1 modulo n, for a multiple of it.
func Order(x, n, multiple api.Nat) (api.Nat, api.Errno) {
	m, e := newModulus(n, x, multiple)
	if e != api.OK {
		return nil, e
	}
	k, isWord := nat.Word(multiple)
	if !m.has(x) || !isWord || k < 1 || k > maxMultiple || !m.leavesOne(x, k) {
		return nil, api.ErrArg
	}
	for p := range primes(k) {
		for k%p == 0 && m.leavesOne(x, k/p) {
			k /= p
		}
	}
	return nat.FromWord(k), api.OK
}
