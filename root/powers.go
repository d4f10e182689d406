package root

import (
	"math/bits"

	"reckoner/api"
	"reckoner/divide"
	"reckoner/internal/rows"
	"reckoner/nat"
)

// shape is what tells quickly of most exponents that a number is no such power. The number is 2^zeros times an odd number.
type shape struct {
	zeros  int
	length int    // of the odd number in bits
	lowest uint64 // word of the odd number
}

// shapeOf returns the shape of x, which is not 0.
func shapeOf(x api.Nat) shape {
	zeros, _ := nat.Bits(x)
	odd, _ := nat.Right(x, zeros)
	return shape{zeros, nat.Len(odd), odd[0]}
}

// greatest returns a number that no exponent of a number of this shape is above, if that is at least 2.
func (s shape) greatest() int {
	if s.zeros > 0 {
		return s.zeros
	}
	return s.length - 1
}

// powerOf returns w^k, where products are what times says.
func powerOf(w, k uint64, times func(v, w uint64) uint64) uint64 {
	z := uint64(1)
	for ; k > 0; k >>= 1 {
		if k&1 == 1 {
			z = times(z, w)
		}
		w = times(w, w)
	}
	return z
}

// allows tells whether a number of this shape may be a power with the exponent p, a prime number.
func (s shape) allows(p int) bool {
	if s.zeros%p != 0 {
		return false
	}
	n := (s.length-1)/p + 1 // the length of the odd number's root
	if p == 2 || n > 64 {
		return true
	}
	// Modulo 2^64, an odd number has one root with an odd exponent: its power with the inverse of that, as each odd number's power with the exponent 2^62 is 1.
	inverse, _ := divide.Odd(one(), api.Nat{uint64(p)}, 1)
	root := powerOf(s.lowest, inverse[0], func(v, w uint64) uint64 { return v * w })
	return bits.Len64(root) == n
}

// isPrime tells whether the odd number q, at least 3, is prime.
func isPrime(q uint64) bool {
	for d := uint64(3); d*d <= q; d += 2 {
		if q%d == 0 {
			return false
		}
	}
	return true
}

// witnesses returns the two least primes that leave 1 by the odd prime p, if they are less than 2^31: by each of them, only one of p numbers leaves what a power with the exponent p leaves.
func witnesses(p uint64) []uint64 {
	var l []uint64
	for q := 2*p + 1; q < 1<<31 && len(l) < 2; q += 2 * p {
		if isPrime(q) {
			l = append(l, q)
		}
	}
	return l
}

// leavesPower tells whether x leaves what a power with the exponent p leaves, a prime number, by the numbers that tell most of that.
func leavesPower(x api.Nat, p int) bool {
	if p == 2 {
		maybe, _ := Maybe(x)
		return maybe
	}
	l := witnesses(uint64(p))
	_, rest, _ := nat.DivWord(x, product(l...))
	for _, q := range l {
		if powerOf(rest%q, (q-1)/uint64(p), func(v, w uint64) uint64 { return v * w % q }) > 1 {
			return false
		}
	}
	return true
}

// rootOfPower returns the root of x, of this shape, and true if x is a power with the exponent p, a prime number.
func rootOfPower(x api.Nat, s shape, p int) (api.Nat, bool) {
	if !s.allows(p) || !leavesPower(x, p) {
		return nil, false
	}
	root, rest, _ := Root(x, p)
	return root, len(rest) == 0
}

// crossOut notes the multiples of p from n on, which need no try: the first of them that is not noted yet, as the others follow from it.
func crossOut(tried map[int]int, n, p int) {
	for tried[n] > 0 {
		n += p
	}
	tried[n] = p
}

// Power returns b and the greatest k with x = b^k.
func Power(x api.Nat) (api.Nat, int, api.Errno) {
	if e := rows.CheckSizes(x); e != api.OK {
		return nil, 0, e
	}
	if nat.Len(x) < 2 {
		return nil, 0, api.ErrArg
	}
	b, k, s := nat.Trim(x), 1, shapeOf(x)
	tried := map[int]int{} // for the next multiple of an exponent that was tried, that exponent
exponents:
	for p := 2; p <= s.greatest(); p++ {
		if divisor, multiple := tried[p]; multiple {
			delete(tried, p)
			crossOut(tried, p+divisor, divisor)
			continue
		}
		if p <= s.greatest()/p {
			crossOut(tried, p*p, p)
		}
		for {
			root, exact := rootOfPower(b, s, p)
			if !exact {
				continue exponents
			}
			b, k, s = root, k*p, shapeOf(root)
		}
	}
	return b, k, api.OK
}
