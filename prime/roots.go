package prime

import "reckoner/api"

// isSquare tells whether the residue a of an odd prime n, not 0, is what a square leaves (Euler).
func (n modulus) isSquare(a uint64) bool {
	return n.power(a, (uint64(n)-1)/2) == 1
}

// root returns a residue x with x x = a modulo an odd prime n, for an a that is what a square leaves (Tonelli and Shanks).
func (n modulus) root(a uint64) uint64 {
	other := uint64(2) // what no square leaves
	for n.isSquare(other) {
		other++
	}
	d, s := n.oddPart()
	// From here on, x x = a t, the order of t divides 2^(i + 1), and that of c is 2^(i + 2).
	x, t, c := n.power(a, (d+1)/2), n.power(a, d), n.power(other, d)
	for i := s - 2; i >= 0; i-- {
		next := n.square(c)
		if n.power(t, 1<<i) != 1 {
			x, t = n.times(x, c), n.times(t, next)
		}
		c = next
	}
	return x
}

// Root returns the least x with x x = a modulo a prime p, and whether there is one.
func Root(a, p uint64) (uint64, bool, api.Errno) {
	n := modulus(p)
	switch {
	case !IsPrime(p) || a >= p:
		return 0, false, api.ErrArg
	case a == 0 || p == 2:
		return a, true, api.OK
	case !n.isSquare(a):
		return 0, false, api.OK
	}
	x := n.root(a)
	return min(x, p-x), true, api.OK
}

// generator returns the least residue of a prime n whose powers are all residues but 0. The prime factors of n - 1 are told.
func (n modulus) generator(factors []uint64) uint64 {
searching:
	for g := uint64(1); ; g++ {
		for _, q := range factors {
			if n.power(g, (uint64(n)-1)/q) == 1 {
				continue searching
			}
		}
		return g
	}
}

// Generator returns the least number from 1 to p - 1 whose powers are, modulo a prime p, all numbers from 1 to p - 1.
func Generator(p uint64) (uint64, api.Errno) {
	if !IsPrime(p) {
		return 0, api.ErrArg
	}
	return modulus(p).generator(rising(factors(p - 1))), api.OK
}
