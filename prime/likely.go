package prime

import (
	"iter"

	"reckoner/api"
	"reckoner/modular"
	"reckoner/nat"
	"reckoner/root"
)

// isOddFromThree tells whether n is odd, and at least 3.
func isOddFromThree(n api.Nat) bool {
	return nat.Bit(n, 0) && nat.Len(n) > 1
}

// isSquare tells whether n is a square.
func isSquare(n api.Nat) bool {
	is, _ := root.IsSquare(n)
	return is
}

// oddPart returns d and s with x = d 2^s, d odd, for an x that is not 0.
func oddPart(x api.Nat) (d api.Nat, s int) {
	s, _ = nat.Bits(x)
	d, _ = nat.Right(x, s)
	return d, s
}

// passes tells whether n passes for a.
func passes(n, a api.Nat) bool {
	last, _ := nat.Sub(n, one())
	d, s := oddPart(last)
	x, _ := modular.Pow(a, d, n)
	square := func(x api.Nat) api.Nat {
		z, _ := modular.Mul(x, x, n)
		return z
	}
	isLast := func(x api.Nat) bool { return nat.Cmp(x, last) == 0 }
	return nat.Len(x) == 1 || comes(x, s, square, isLast)
}

// discriminants gives 5, -7, 9, -11, 13, ..
func discriminants() iter.Seq[int] {
	return func(yield func(int) bool) {
		for size, sign := 5, 1; yield(sign * size); size += 2 {
			sign = -sign
		}
	}
}

// discriminant returns the first one whose Jacobi symbol for n is -1, and true, or false if n has a common divisor with one before. For an n that is not a square, there is one.
func discriminant(n api.Nat) (int, bool) {
	for d := range discriminants() {
		a := residueOf(d, n)
		symbol, _ := modular.Jacobi(a, n)
		switch {
		case symbol < 0:
			return d, true
		case symbol == 0 && len(a) > 0: // There is a common divisor, and it is not n.
			return 0, false
		}
	}
	return 0, false
}

// passesLucas tells whether n, which is odd, at least 3, and not a square, passes Lucas.
func passesLucas(n api.Nat) bool {
	d, is := discriminant(n)
	if !is {
		return false
	}
	next, _ := nat.Add(n, one())
	k, s := oddPart(next)
	r := newRing(1, (1-d)/4, n)
	x := r.power(k)
	// A power that is its own conjugate has a U of 0, as n is odd; one that is its conjugate with the other sign has a V of 0.
	isNegated := func(x power) bool { return x == r.negated(r.conjugate(x)) }
	return x == r.conjugate(x) || comes(x, s, r.square, isNegated)
}

// Passes tells whether an odd n passes for a.
func Passes(n, a api.Nat) (bool, api.Errno) {
	if e := checkNumber(n, a); e != api.OK {
		return false, e
	}
	if !isOddFromThree(n) || nat.Len(a) == 0 || nat.Cmp(a, n) >= 0 {
		return false, api.ErrArg
	}
	return passes(n, a), api.OK
}

// PassesLucas tells whether an odd n that is not a square passes Lucas.
func PassesLucas(n api.Nat) (bool, api.Errno) {
	if e := checkNumber(n); e != api.OK {
		return false, e
	}
	if !isOddFromThree(n) || isSquare(n) {
		return false, api.ErrArg
	}
	return passesLucas(n), api.OK
}

// IsLikely tells whether n is 2, or odd and passes for 2, and, as it is not a square, Lucas.
func IsLikely(n api.Nat) (bool, api.Errno) {
	if e := checkNumber(n); e != api.OK {
		return false, e
	}
	two := api.Nat{2}
	if !isOddFromThree(n) {
		return nat.Cmp(n, two) == 0, api.OK
	}
	return passes(n, two) && !isSquare(n) && passesLucas(n), api.OK
}
