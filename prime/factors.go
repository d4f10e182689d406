package prime

import (
	"cmp"
	"maps"
	"slices"

	"reckoner/api"
	"reckoner/gcd"
	"reckoner/nat"
)

// batch is how many differences are multiplied before their product is looked at.
const batch = 128

// commonDivisor returns the greatest common divisor of x and n.
func (n modulus) commonDivisor(x uint64) uint64 {
	g, _ := gcd.Lehmer(nat.FromWord(x), nat.FromWord(uint64(n)))
	w, _ := nat.Word(g)
	return w
}

// distance returns the difference of x and y.
func distance(x, y uint64) uint64 {
	return max(x, y) - min(x, y)
}

// meeting returns the greatest common divisor, more than 1, of n and a difference of two numbers of the sequence 2, 2^2 + c, .. modulo n, in which each is the square of the one before, and c (Pollard's rho, as Brent looks for its cycle). It may be n.
func (n modulus) meeting(c uint64) uint64 {
	next := func(x uint64) uint64 { return n.sum(n.square(x), c) }
	var kept, begin uint64
	x := uint64(2)
searching:
	for length := 1; ; length *= 2 {
		kept = x
		for done := 0; done < length; done += batch {
			begin = x
			product := uint64(1)
			for range min(batch, length-done) {
				x = next(x)
				product = n.times(product, distance(x, kept))
			}
			if n.commonDivisor(product) > 1 {
				break searching
			}
		}
	}
	// One of the differences since begin has this divisor, or a part of it.
	for {
		begin = next(begin)
		if g := n.commonDivisor(distance(begin, kept)); g > 1 {
			return g
		}
	}
}

// divisor returns a divisor of n other than 1 and n, for an n that is not 1 and not prime.
func divisor(n uint64) uint64 {
	for _, p := range smallPrimes {
		if n%p == 0 {
			return p
		}
	}
	// There is a c that gives one: modulo a factor, it makes the second number of the sequence the first one, but not modulo n. Nearly always one of the first does it.
	for c := uint64(1); ; c++ {
		if g := modulus(n).meeting(c); g < n {
			return g
		}
	}
}

// factors returns the prime factors of n, which is not 0, with how often each of them occurs.
func factors(n uint64) map[uint64]int {
	known := map[uint64]int{}
	var take func(n uint64)
	take = func(n uint64) {
		switch {
		case n == 1:
		case IsPrime(n):
			known[n]++
		default:
			d := divisor(n)
			take(d)
			take(n / d)
		}
	}
	take(n)
	return known
}

// rising returns the keys of a map, sorted.
func rising[K cmp.Ordered, V any](m map[K]V) []K {
	return slices.Sorted(maps.Keys(m))
}

// Factor returns the prime factors of n, not falling, each as often as it occurs.
func Factor(n uint64) ([]uint64, api.Errno) {
	if n == 0 {
		return nil, api.ErrArg
	}
	var l []uint64
	known := factors(n)
	for _, p := range rising(known) {
		for range known[p] {
			l = append(l, p)
		}
	}
	return l, api.OK
}

// Split returns a divisor of n other than 1 and n.
func Split(n uint64) (uint64, api.Errno) {
	if n < 4 || IsPrime(n) {
		return 0, api.ErrNone
	}
	return divisor(n), api.OK
}

// Phi returns how many of the numbers from 1 to n have no common divisor with n but 1.
func Phi(n uint64) (uint64, api.Errno) {
	if n == 0 {
		return 0, api.ErrArg
	}
	phi := n
	for p := range factors(n) {
		phi = phi / p * (p - 1)
	}
	return phi, api.OK
}

// Moebius returns 0, if a square greater than 1 divides n, otherwise 1 or -1, as n has an even or an odd number of prime factors.
func Moebius(n uint64) (int, api.Errno) {
	if n == 0 {
		return 0, api.ErrArg
	}
	sign := 1
	for _, often := range factors(n) {
		if often > 1 {
			return 0, api.OK
		}
		sign = -sign
	}
	return sign, api.OK
}
