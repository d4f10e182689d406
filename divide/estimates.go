package divide

import (
	"math/bits"

	"reckoner/api"
	"reckoner/internal/rows"
	"reckoner/nat"
)

// leastShift returns the least s for which v 2^s is normal, for a v that is not 0.
func leastShift(v api.Nat) int {
	return -nat.Len(v) & 63
}

// IsNormal tells whether v is a normal divisor.
func IsNormal(v api.Nat) bool {
	return nat.Len(v) > 0 && leastShift(v) == 0
}

// Normal returns v 2^s and s, with the least s for which it is normal.
func Normal(v api.Nat) (api.Nat, int, api.Errno) {
	if e := rows.CheckSizes(v); e != api.OK {
		return nil, 0, e
	}
	if nat.Len(v) == 0 {
		return nil, 0, api.ErrZero
	}
	s := leastShift(v)
	z, e := nat.Left(v, s)
	return z, s, e
}

// estimate returns floor((high B + low) / first), or B - 1 if that is less, for a first that is not less than high.
func estimate(high, low, first uint64) uint64 {
	if high == first {
		return ^uint64(0)
	}
	word, _ := bits.Div64(high, low, first)
	return word
}

// Estimate returns the estimate of the word of the quotient of u by v.
func Estimate(u, v api.Nat) (uint64, api.Errno) {
	if e := rows.CheckSizes(u, v); e != api.OK {
		return 0, e
	}
	u, v = rows.Used(u), rows.Used(v)
	if !IsNormal(v) || len(v) < 2 || len(u) > 0 && nat.Cmp(u[1:], v) >= 0 {
		return 0, api.ErrArg
	}
	n := len(v)
	z := make(api.Nat, n+1)
	copy(z, u)
	return estimate(z[n], z[n-1], v[n-1]), api.OK
}

// lessened returns the estimate of a word of the quotient of u by v made less, as long as the second word of v tells that it is too great. What is returned is the word or, seldom, 1 more (Knuth, The Art of Computer Programming, 4.3.1, algorithm D). v has at least two words, u one more than v.
func lessened(word uint64, u, v api.Nat) uint64 {
	n := len(v)
	first, second := v[n-1], v[n-2]
	// The two highest words of u, less word first.
	high, low := bits.Mul64(word, first)
	low, borrow := bits.Sub64(u[n-1], low, 0)
	high, _ = bits.Sub64(u[n], high, borrow)
tooGreat:
	for high == 0 {
		a, b := bits.Mul64(word, second)
		switch {
		case a < low, a == low && b <= u[n-2]:
			break tooGreat
		}
		word--
		low, high = bits.Add64(low, first, 0)
	}
	return word
}

// takeWord returns the quotient of u by v, which is a word, and leaves the remainder in u. v is normal, u has one word more than v.
func takeWord(u, v api.Nat) uint64 {
	n := len(v)
	word := estimate(u[n], u[n-1], v[n-1])
	if n > 1 {
		word = lessened(word, u, v)
	}
	if rows.Take(u, v, word) > 0 {
		rows.Add(u, v, 1)
		word--
	}
	return word
}

// school is the way of the schoolbook, word by word.
func school(u, v api.Nat) quotient {
	n := len(v)
	rest := make(api.Nat, len(u)+1) // so that its n highest words are less than v
	copy(rest, u)
	q := make(api.Nat, len(rest)-n)
	for at := len(q) - 1; at >= 0; at-- {
		q[at] = takeWord(rest[at:at+n+1], v)
	}
	return quotient{rows.Used(q), rows.Used(rest[:n:n])}
}
