package divide

import (
	"reckoner/api"
	"reckoner/internal/rows"
	"reckoner/nat"
)

// Exact returns x / y, or ErrNone if y does not divide x.
func Exact(x, y api.Nat) (api.Nat, api.Errno) {
	q, r, e := DivMod(x, y)
	if e != api.OK {
		return nil, e
	}
	if len(r) > 0 {
		return nil, api.ErrNone
	}
	return q, api.OK
}

// wordInverse returns the inverse of an odd word modulo B.
func wordInverse(w uint64) uint64 {
	// The square of an odd number leaves 1 by 8, so w is its own inverse in 3 bits; each step doubles them, to 96.
	v := w
	for range 5 {
		v *= 2 - w*v
	}
	return v
}

// Odd returns the q less than B^n with q y = x modulo B^n.
func Odd(x, y api.Nat, n int) (api.Nat, api.Errno) {
	if e := rows.CheckSizes(x, y); e != api.OK {
		return nil, e
	}
	if !nat.Bit(y, 0) || n < 0 || n > api.MaxWords {
		return nil, api.ErrArg
	}
	inverse := wordInverse(y[0])
	rest := make(api.Nat, n)
	copy(rest, x)
	// From the lowest word on, each word of the quotient makes that of what is left 0, and takes its place.
	for i := range rest {
		word := rest[i] * inverse
		rows.Take(rest[i:], y[:min(len(y), n-i)], word)
		rest[i] = word
	}
	return rows.Used(rest), api.OK
}

// roundsUp tells whether a quotient q that leaves r by y is rounded to the number above it.
func roundsUp(q, r, y api.Nat, m api.Rounding) bool {
	if len(r) == 0 {
		return false
	}
	rest, _ := nat.Sub(y, r)
	side := nat.Cmp(r, rest) // of the middle
	switch m {
	case api.NearEven:
		return side > 0 || side == 0 && nat.Bit(q, 0)
	case api.NearAway:
		return side >= 0
	}
	return m == api.Up
}

// Rounded returns x / y, rounded to a natural number.
func Rounded(x, y api.Nat, m api.Rounding) (api.Nat, api.Errno) {
	if e := rows.CheckSizes(x, y); e != api.OK {
		return nil, e
	}
	if m < api.NearEven || m > api.Down {
		return nil, api.ErrArg
	}
	q, r, e := DivMod(x, y)
	if e != api.OK {
		return nil, e
	}
	if roundsUp(q, r, y, m) {
		return nat.Add(q, one())
	}
	return q, api.OK
}
