// Package words is layer 1: it calculates with rows of words, the least significant first, and with what one step of an algorithm carries to the next. See shared/doc/01-words.md.
package words

import (
	"cmp"
	"math/bits"

	"reckoner/api"
)

// Add returns the row x + y + carry and what it carries.
func Add(x, y []uint64, carry uint64) ([]uint64, uint64, api.Errno) {
	if e := checkLengths(len(x), len(y)); e != api.OK {
		return nil, 0, e
	}
	if carry > 1 {
		return nil, 0, api.ErrArg
	}
	z := newRow(len(x), func(i int) (w uint64) {
		w, carry = bits.Add64(x[i], y[i], carry)
		return w
	})
	return z, carry, api.OK
}

// Sub returns the row x - y - borrow and what it borrows.
func Sub(x, y []uint64, borrow uint64) ([]uint64, uint64, api.Errno) {
	if e := checkLengths(len(x), len(y)); e != api.OK {
		return nil, 0, e
	}
	if borrow > 1 {
		return nil, 0, api.ErrArg
	}
	z := newRow(len(x), func(i int) (w uint64) {
		w, borrow = bits.Sub64(x[i], y[i], borrow)
		return w
	})
	return z, borrow, api.OK
}

// MulWord returns the row x w + add and the word above it.
func MulWord(x []uint64, w, add uint64) ([]uint64, uint64, api.Errno) {
	if e := checkLengths(len(x)); e != api.OK {
		return nil, 0, e
	}
	carry := add
	z := newRow(len(x), func(i int) uint64 {
		p := times(x[i], w).plus(carry)
		carry = p.high
		return p.low
	})
	return z, carry, api.OK
}

// AddMul returns the row z + x w and the word above it.
func AddMul(z, x []uint64, w uint64) ([]uint64, uint64, api.Errno) {
	if e := checkLengths(len(z), len(x)); e != api.OK {
		return nil, 0, e
	}
	var carry uint64
	a := newRow(len(z), func(i int) uint64 {
		p := times(x[i], w).plus(z[i]).plus(carry)
		carry = p.high
		return p.low
	})
	return a, carry, api.OK
}

// SubMul returns the row z - x w and the word that it borrows.
func SubMul(z, x []uint64, w uint64) ([]uint64, uint64, api.Errno) {
	if e := checkLengths(len(z), len(x)); e != api.OK {
		return nil, 0, e
	}
	var borrow uint64
	a := newRow(len(z), func(i int) uint64 {
		p := times(x[i], w).plus(borrow)
		low, under := bits.Sub64(z[i], p.low, 0)
		borrow = p.high + under // a word: if p.high is the greatest one, p.low is 0
		return low
	})
	return a, borrow, api.OK
}

// DivWord returns quotient and remainder of high 2^(64 n) + x by w, if the quotient is a row.
func DivWord(x []uint64, w, high uint64) ([]uint64, uint64, api.Errno) {
	if e := checkLengths(len(x)); e != api.OK {
		return nil, 0, e
	}
	if w == 0 {
		return nil, 0, api.ErrZero
	}
	if high >= w {
		return nil, 0, api.ErrArg
	}
	q, r := copied(x), high
	for i, low := range fromBack(q) {
		q[i], r = bits.Div64(r, low, w)
	}
	return q, r, api.OK
}

// outOfWord tells whether a row may not be shifted by s bits.
func outOfWord(s int) bool {
	return s < 0 || s > 63
}

// Left returns the row x 2^s and what is shifted out of it.
func Left(x []uint64, s int) ([]uint64, uint64, api.Errno) {
	if e := checkLengths(len(x)); e != api.OK {
		return nil, 0, e
	}
	if outOfWord(s) {
		return nil, 0, api.ErrArg
	}
	var carry uint64
	z := newRow(len(x), func(i int) uint64 {
		low := carry
		carry = x[i] >> (64 - s)
		return x[i]<<s | low
	})
	return z, carry, api.OK
}

// Right returns the row floor(x / 2^s) and what is shifted out of it, at the upper end of a word.
func Right(x []uint64, s int) ([]uint64, uint64, api.Errno) {
	if e := checkLengths(len(x)); e != api.OK {
		return nil, 0, e
	}
	if outOfWord(s) {
		return nil, 0, api.ErrArg
	}
	var carry uint64
	z := copied(x)
	for i, w := range fromBack(z) {
		z[i] = w>>s | carry
		carry = w << (64 - s)
	}
	return z, carry, api.OK
}

// Cmp returns -1, 0 or 1, as x is less than, equal to or greater than y.
func Cmp(x, y []uint64) (int, api.Errno) {
	if e := checkLengths(len(x), len(y)); e != api.OK {
		return 0, e
	}
	for i, w := range fromBack(x) {
		if c := cmp.Compare(w, y[i]); c != 0 {
			return c, api.OK
		}
	}
	return 0, api.OK
}

// Negate returns the row -x and whether x is not 0.
func Negate(x []uint64) ([]uint64, bool, api.Errno) {
	if e := checkLengths(len(x)); e != api.OK { // before a row of zeros is made that is as long
		return nil, false, e
	}
	z, borrow, e := Sub(make([]uint64, len(x)), x, 0)
	return z, borrow == 1, e
}
