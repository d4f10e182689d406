package root

import (
	"math/bits"

	"reckoner/api"
	"reckoner/divide"
	"reckoner/internal/rows"
	"reckoner/nat"
)

// taken is a word's root and what is left of the word: together root^2 + rest.
type taken struct {
	root, rest uint64
}

// raised returns t with a root that is nearer to the greatest one, and not above it: t itself, if there is none. The root is not 0.
func (t taken) raised() taken {
	// The root may grow by d if d (2 root + d) <= rest. So d is at most rest / (2 root), and with that in its place in the sum the quotient is no longer too great.
	d := t.rest / (2*t.root + t.rest/(2*t.root))
	return taken{t.root + d, t.rest - d*(2*t.root+d)}
}

// rootOfWord returns the greatest root of w, which is not 0.
func rootOfWord(w uint64) taken {
	first := uint64(1) << ((bits.Len64(w) - 1) / 2)
	t := taken{first, w - first*first}
	for next := t.raised(); next != t; next = t.raised() {
		t = next
	}
	return t
}

// part returns the number of the n bits of x from 2^from on, for an n that is not 0, and no bits beyond those of x.
func part(x api.Nat, from, n int) api.Nat {
	z, _ := nat.Right(x[from/64:(from+n-1)/64+1], from%64)
	z, _ = nat.Low(z, n)
	return z
}

// byHalves returns the greatest s with s s <= x, and x - s s.
func byHalves(x api.Nat) (s, rest api.Nat) {
	length := nat.Len(x)
	// upper takes the root of floor(x / 2^from), for an even from.
	var upper func(from int) (s, rest api.Nat)
	upper = func(from int) (s, rest api.Nat) {
		n := length - from
		if n <= 64 {
			w, _ := nat.Word(part(x, from, n))
			t := rootOfWord(w)
			return nat.FromWord(t.root), nat.FromWord(t.rest)
		}
		// With as many bits as this, twice the root of the upper ones is not less than 2^quarter: that makes the quotient at most 1 too great.
		quarter := (n + 1) / 4
		s, rest = upper(from + 2*quarter)
		rest = shifted(rest, quarter, part(x, from+quarter, quarter))
		double, _ := nat.Left(s, 1)
		q, rest, _ := divide.DivMod(rest, double)
		return corrected(shifted(s, quarter, q), shifted(rest, quarter, part(x, from, quarter)), q)
	}
	if length == 0 {
		return nil, nil
	}
	return upper(0)
}

// corrected returns the root s and the rest less q q, or, if that is less than 0, the root that is 1 less and its rest.
func corrected(s, rest, q api.Nat) (api.Nat, api.Nat) {
	square, _ := nat.Square(q)
	if nat.Cmp(rest, square) < 0 {
		rest, _ = nat.Add(rest, s)
		s, _ = nat.Sub(s, one())
		rest, _ = nat.Add(rest, s)
	}
	rest, _ = nat.Sub(rest, square)
	return s, rest
}

// Halving returns the greatest s with s s <= x, and x - s s.
func Halving(x api.Nat) (s, rest api.Nat, e api.Errno) {
	if e := rows.CheckSizes(x); e != api.OK {
		return nil, nil, e
	}
	s, rest = byHalves(x)
	return s, rest, api.OK
}

// product returns the product of words, which is a word.
func product(l ...uint64) uint64 {
	z := uint64(1)
	for _, w := range l {
		z *= w
	}
	return z
}

// moduli returns the numbers by which a number is looked at that may be a square. They have no common divisors, and less than 1 of 100 numbers leaves what a square leaves by each.
func moduli() [4]uint64 {
	return [...]uint64{64, 63, 65, 11}
}

// leftBySquare tells whether a square leaves r by m, which is one of the moduli.
func leftBySquare(r, m uint64) bool {
	var left [65]bool
	for i := range m {
		left[i*i%m] = true
	}
	return left[r]
}

// Maybe tells whether x leaves, by each of the moduli, what a square leaves.
func Maybe(x api.Nat) (bool, api.Errno) {
	if e := rows.CheckSizes(x); e != api.OK {
		return false, e
	}
	all := moduli()
	_, rest, _ := nat.DivWord(x, product(all[:]...))
	for _, m := range all {
		if !leftBySquare(rest%m, m) {
			return false, api.OK
		}
	}
	return true, api.OK
}

// IsSquare tells whether x is a square.
func IsSquare(x api.Nat) (bool, api.Errno) {
	if maybe, e := Maybe(x); !maybe {
		return false, e
	}
	_, rest := byHalves(x)
	return len(rest) == 0, api.OK
}
