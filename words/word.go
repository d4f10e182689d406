package words

import (
	"math/bits"

	"reckoner/api"
)

// topBit is the least word that Reciprocal takes.
const topBit = 1 << 63

// pair is the number high 2^64 + low.
type pair struct {
	high, low uint64
}

// times returns a b.
func times(a, b uint64) pair {
	high, low := bits.Mul64(a, b)
	return pair{high, low}
}

// plus returns p + w. A product of two words has room for two more words: it is at most 2^128 - 2^65 + 1.
func (p pair) plus(w uint64) pair {
	low, carry := bits.Add64(p.low, w, 0)
	return pair{p.high + carry, low}
}

// Wide returns the words of a b.
func Wide(a, b uint64) (high, low uint64) {
	p := times(a, b)
	return p.high, p.low
}

// Narrow returns quotient and remainder of high 2^64 + low by d, if the quotient is a word.
func Narrow(high, low, d uint64) (q, r uint64, e api.Errno) {
	if d == 0 {
		return 0, 0, api.ErrZero
	}
	if high >= d {
		return 0, 0, api.ErrArg
	}
	q, r = bits.Div64(high, low, d)
	return q, r, api.OK
}

// Inverse returns the inverse of an odd word modulo 2^64.
func Inverse(w uint64) (uint64, api.Errno) {
	if w%2 == 0 {
		return 0, api.ErrArg
	}
	// The square of an odd number leaves 1 by 8, so w is its own inverse in 3 bits; each step doubles them, to 96.
	v := w
	for range 5 {
		v *= 2 - w*v
	}
	return v, api.OK
}

// Reciprocal returns floor((2^128 - 1) / d) - 2^64 for a word d with the highest bit 1.
func Reciprocal(d uint64) (uint64, api.Errno) {
	if d < topBit {
		return 0, api.ErrArg
	}
	// 2^64 is taken from the quotient as 2^64 d from the dividend, so that the quotient is a word.
	v, _ := bits.Div64(^d, ^uint64(0), d)
	return v, api.OK
}

// isReciprocal tells whether v is Reciprocal(d), for a d that has one, without the division that a reciprocal is there to save: (2^64 + v) d must be at most 2^128 - 1, and less than d below it.
func isReciprocal(d, v uint64) bool {
	p := times(d, v)
	high, carry := bits.Add64(p.high, d, 0)
	return carry == 0 && ^high == 0 && ^p.low < d
}

// ByReciprocal returns what Narrow does, by a product with the reciprocal v of d.
func ByReciprocal(high, low, d, v uint64) (q, r uint64, e api.Errno) {
	if d < topBit || !isReciprocal(d, v) || high >= d {
		return 0, 0, api.ErrArg
	}
	// The guess is the high word of (2^64 + v) high + low, and 1 (Moeller and Granlund, Improved division by invariant integers). It is right, or 1 too great, or, seldom, 1 too small.
	guess := times(v, high).plus(low)
	q = guess.high + high + 1
	r = low - q*d
	if r > guess.low {
		q--
		r += d
	}
	if r >= d {
		q++
		r -= d
	}
	return q, r, api.OK
}

// The tables of counts, by what they count.
const (
	leadingZeros = iota
	trailingZeros
	allOnes
)

// counts holds a table for each count, by four bits at a time.
var counts = [3][16]int{
	{4, 3, 2, 2, 1, 1, 1, 1, 0, 0, 0, 0, 0, 0, 0, 0},
	{4, 0, 1, 0, 2, 0, 1, 0, 3, 0, 1, 0, 2, 0, 1, 0},
	{0, 1, 1, 2, 1, 2, 2, 3, 1, 2, 2, 3, 2, 3, 3, 4},
}

// Count returns the numbers of bits 0 above the highest bit 1 and below the lowest, and of bits 1.
func Count(w uint64) (leading, trailing, ones int) {
	for i := 0; i < 64; i += 4 {
		four := w >> i & 15
		if four != 0 {
			leading = 0
		}
		leading += counts[leadingZeros][four]
		if trailing == i { // only zeros so far
			trailing += counts[trailingZeros][four]
		}
		ones += counts[allOnes][four]
	}
	return leading, trailing, ones
}
