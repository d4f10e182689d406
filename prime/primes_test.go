package prime_test

import (
	"testing"

	"reckoner/internal/oracle"
	"reckoner/prime"
)

// P9.1: all small numbers.
func TestSmallPrimes(t *testing.T) {
	for n, is := range sieve(300000) {
		if prime.IsPrime(uint64(n)) != is {
			t.Errorf("IsPrime(%d): %v", n, !is)
		}
	}
}

// P9.1: long words, and those beside them.
func TestLargePrimes(t *testing.T) {
	for _, p := range largePrimes() {
		if !prime.IsPrime(p) {
			t.Errorf("IsPrime(%d): false", p)
		}
		for _, n := range []uint64{p - 1, p + 1} {
			if prime.IsPrime(n) {
				t.Errorf("IsPrime(%d): true", n)
			}
		}
	}
	for _, n := range []uint64{top, top - 1, half, half - 1, 1 << 32, 1<<32 + 1, 1<<32 - 1} {
		if prime.IsPrime(n) {
			t.Errorf("IsPrime(%d): true", n)
		}
	}
}

// P9.1: products, that quick tests take for prime.
func TestProductsAreNotPrime(t *testing.T) {
	list := append(pseudoprimes(), 561, 1105, 1729, 2465, 41041, 825265, 321197185, 9746347772161, 1436697831295441, 60977817398996785, 7156857700403137441) // Carmichael's numbers, up to those of a word
	var words []uint64
	for _, p := range largePrimes() {
		if p < 1<<32 {
			words = append(words, p)
		}
	}
	for _, p := range append(words, 41, 43, 1093, 3511, 16843, 65539) {
		for _, q := range append(words, 41, 47, 1093, 3511) {
			list = append(list, p*q)
		}
	}
	for _, n := range list {
		if prime.IsPrime(n) {
			t.Errorf("IsPrime(%d): true", n)
		}
	}
}

// isProved tells whether a proof is right, by the definition. It is for proofs of which the tests know that they end.
func isProved(p prime.Proof) bool {
	if p.Base == 0 {
		return (p.N == 2 || p.N == 3 || p.N == 5 || p.N == 7) && len(p.Parts) == 0
	}
	if p.N < 3 || p.Base < 2 || p.Base > p.N-1 || power(p.Base, p.N-1, p.N) != 1 {
		return false
	}
	rest := p.N - 1
	for i, part := range p.Parts {
		q := part.N
		if !isProved(part) || i > 0 && q <= p.Parts[i-1].N || (p.N-1)%q != 0 || power(p.Base, (p.N-1)/q, p.N) == 1 {
			return false
		}
		for rest%q == 0 {
			rest /= q
		}
	}
	return rest == 1
}

// P9.1, P9.2, W6: of what is said to be prime, the proof is right; of what is not, there is a divisor.
func TestAllIsCertain(t *testing.T) {
	m := oracle.Mixer(5)
	var list []uint64
	for n := uint64(4); n < 3000; n++ {
		list = append(list, n, top-n, half+n, half-n, 1<<32+n, 1<<32-n)
	}
	for i := range 3000 {
		list = append(list, m.Next()>>(i%60))
	}
	for _, n := range append(append(list, largePrimes()...), pseudoprimes()...) {
		if n < 2 {
			continue
		}
		if prime.IsPrime(n) {
			if p, e := prime.Prove(n); e != 0 || p.N != n || !isProved(p) {
				t.Errorf("Prove(%d): error %d, %v", n, e, p)
			}
		} else if d, e := prime.Split(n); e != 0 || d <= 1 || d >= n || n%d != 0 {
			t.Errorf("Split(%d): error %d, %d", n, e, d)
		}
	}
}
