// Package rows is what the layers above words share: the check of sizes, and arithmetic in place with rows of words of any length, the least significant first. The layers' own calls take no number of more than api.MaxWords words, and return new memory.
package rows

import (
	"math/bits"

	"reckoner/api"
)

// CheckSizes returns ErrSize if one of the numbers has too many words, with those that are 0.
func CheckSizes(l ...api.Nat) api.Errno {
	for _, x := range l {
		if len(x) > api.MaxWords {
			return api.ErrSize
		}
	}
	return api.OK
}

// Used returns x without the words that are 0 at its end, in the same memory.
func Used(x api.Nat) api.Nat {
	n := len(x)
	for n > 0 && x[n-1] == 0 {
		n--
	}
	return x[:n]
}

// Add adds x w to the row z, which is at least as long as x, and returns what z does not hold.
func Add(z, x api.Nat, w uint64) uint64 {
	var carry uint64
	for i, v := range x {
		high, low := bits.Mul64(v, w)
		low, more := bits.Add64(low, carry, 0)
		high += more
		z[i], more = bits.Add64(z[i], low, 0)
		carry = high + more
	}
	for i := len(x); i < len(z) && carry > 0; i++ {
		z[i], carry = bits.Add64(z[i], carry, 0)
	}
	return carry
}

// Take takes x w from the row z, which is at least as long as x, and returns what z borrows.
func Take(z, x api.Nat, w uint64) uint64 {
	var borrow uint64
	for i, v := range x {
		high, low := bits.Mul64(v, w)
		low, more := bits.Add64(low, borrow, 0)
		high += more
		z[i], more = bits.Sub64(z[i], low, 0)
		borrow = high + more
	}
	for i := len(x); i < len(z) && borrow > 0; i++ {
		z[i], borrow = bits.Sub64(z[i], borrow, 0)
	}
	return borrow
}
