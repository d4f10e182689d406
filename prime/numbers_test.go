package prime_test

import (
	"math/bits"
	"slices"
	"testing"

	"reckoner/api"
	"reckoner/internal/oracle"
	"reckoner/nat"
)

const (
	top  = oracle.Top
	half = oracle.Half
)

var (
	alone = oracle.Alone
	check = oracle.Check
	fails = oracle.Fails
	less  = oracle.Less
	ones  = oracle.Ones
	plus  = oracle.Plus
	shown = oracle.Shown
	times = oracle.Times
	zeros = oracle.Zeros
)

// sieve tells of each number below n whether it is prime, as Eratosthenes does.
func sieve(n int) []bool {
	is := slices.Repeat([]bool{true}, n)
	is[0], is[1] = false, false
	for p := range is {
		for k := 2 * p; is[p] && k < n; k += p {
			is[k] = false
		}
	}
	return is
}

// primeFactors returns the prime factors of a small n by division, not falling.
func primeFactors(n uint64) []uint64 {
	var l []uint64
	for p := uint64(2); n > 1; p++ {
		for n%p == 0 {
			l = append(l, p)
			n /= p
		}
	}
	return l
}

// divisor returns the greatest common divisor of two words.
func divisor(a, b uint64) uint64 {
	for b > 0 {
		a, b = b, a%b
	}
	return a
}

// power returns what x to the power of k leaves by n, by the bits of k from the highest one on.
func power(x, k, n uint64) uint64 {
	z := 1 % n
	multiply := func(w uint64) {
		high, low := bits.Mul64(z, w)
		z = bits.Rem64(high, low, n)
	}
	for i := 63; i >= 0; i-- {
		multiply(z)
		if k>>i&1 == 1 {
			multiply(x)
		}
	}
	return z
}

// left returns what x leaves by n.
func left(x, n api.Nat) api.Nat {
	_, r, _ := nat.DivMod(x, n)
	return r
}

// longPower returns what x to the power of k leaves by n, by the bits of k from the lowest one on.
func longPower(x, k, n api.Nat) api.Nat {
	z := left(api.Nat{1}, n)
	for i := range nat.Len(k) {
		if nat.Bit(k, i) {
			z = left(times(z, x), n)
		}
		x = left(times(x, x), n)
	}
	return z
}

// padded returns x with n words of 0 behind it.
func padded(x api.Nat, n int) api.Nat {
	return append(slices.Clone(x), zeros(n)...)
}

// largePrimes returns prime words: the greatest ones of several lengths, some with many factors 2 below them, and some about which the gaps are wide.
func largePrimes() []uint64 {
	return []uint64{
		65521, 65537, 4294967197, 4294967279, 4294967291, 4294967311, 1<<61 - 1, 1<<63 - 259, 1<<63 - 165, 1<<63 - 25,
		3<<30 + 1, 29<<57 + 1, 1<<64 - 1<<32 + 1, 18361375334787046697, 18361375334787048247, 1<<64 - 95, 1<<64 - 83, 1<<64 - 59,
	}
}

// pseudoprimes returns words that are not prime and pass for the first prime numbers, each for one or some more than the one before, up to 23 (Pomerance, Selfridge and Wagstaff; Jaeschke).
func pseudoprimes() []uint64 {
	return []uint64{2047, 1373653, 25326001, 3215031751, 2152302898747, 3474749660383, 341550071728321, 3825123056546413051}
}

// proth returns k 2^s + 1.
func proth(k uint64, s int) api.Nat {
	return plus(times(api.Nat{k}, alone(s)), api.Nat{1})
}

// longPrimes returns prime numbers of several lengths, up to that of 32 words: those of Mersenne, and those that Proth's theorem proves.
func longPrimes() []api.Nat {
	var list []api.Nat
	for _, s := range []int{61, 89, 107, 127, 521, 607, 1279} {
		list = append(list, less(alone(s)))
	}
	for _, c := range []struct {
		k uint64
		s int
	}{{81, 121}, {13, 188}, {207, 248}, {2401, 500}, {95, 993}, {1281, 2037}} {
		list = append(list, proth(c.k, c.s))
	}
	return list
}

// Proth: if k < 2^s, and some number to the power of (n - 1) / 2 leaves n - 1 by n = k 2^s + 1, n is prime. Lucas and Lehmer: n = 2^s - 1 is prime, if the number after s - 2 steps from x to x x - 2 is 0 modulo n, the first one being 4, and s odd.
func TestLongPrimes(t *testing.T) {
	for _, n := range longPrimes() {
		last := less(n)
		proved := false
		if nat.Bit(n, 1) { // of Mersenne
			x := api.Nat{4}
			for range nat.Len(n) - 2 {
				x = left(plus(times(x, x), less(last)), n)
			}
			proved = nat.Len(x) == 0
		} else {
			k, _ := nat.Right(last, 1)
			for _, a := range []uint64{3, 5, 7} {
				proved = proved || nat.Cmp(longPower(api.Nat{a}, k, n), last) == 0
			}
		}
		if !proved {
			t.Errorf("not proved:%s", shown(n))
		}
	}
}

// The arithmetic that the tests check with, by small numbers.
func TestNumbers(t *testing.T) {
	is := sieve(500)
	for n := range uint64(500) {
		if n < 2 {
			continue
		}
		product := uint64(1)
		for _, p := range primeFactors(n) {
			product *= p
			if !is[p] {
				t.Errorf("factor %d of %d", p, n)
			}
		}
		if product != n {
			t.Errorf("factors of %d: product %d", n, product)
		}
	}
	for n := uint64(1); n < 20; n++ {
		for x := range uint64(20) {
			z := uint64(1)
			for k := range uint64(14) {
				if got, long := power(x, k, n), longPower(nat.FromWord(x), nat.FromWord(k), api.Nat{n}); got != z%n || nat.Cmp(long, nat.FromWord(z%n)) != 0 {
					t.Errorf("power(%d, %d, %d): %d,%s", x, k, n, got, shown(long))
				}
				z = z * x % n
			}
			g := max(x, n)
			for d := uint64(1); d <= n; d++ {
				if x%d == 0 && n%d == 0 {
					g = d
				}
			}
			if got := divisor(x, n); got != g {
				t.Errorf("divisor(%d, %d): %d", x, n, got)
			}
		}
	}
}
