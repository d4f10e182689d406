package ntt

import (
	"math/bits"

	"reckoner/api"
	"reckoner/internal/rows"
	"reckoner/nat"
)

const (
	maxDigits = 1 << 18 // elements of a list that is joined
	// productBits is the size of the digits that are multiplied: an element of their product is a sum of at most 2^14 products of two digits, and so less than P. Of digits of 32 bits it might be greater.
	productBits = 16
)

// isDigitSize tells whether digits may have so many bits.
func isDigitSize(size int) bool {
	return size == 8 || size == 16 || size == 32
}

// digits returns the digits of x, of so many bits each.
func digits[W word](x api.Nat, size int) []W {
	l := make([]W, (nat.Len(x)+size-1)/size)
	for i := range l {
		at := i * size
		l[i] = W(x[at/64] >> (at % 64) & (1<<size - 1))
	}
	return l
}

// number returns the sum of l[i] 2^(size i).
func number[W word](l []W, size int) (api.Nat, api.Errno) {
	row := make(api.Nat, 0, len(l)*size/64+2)
	var carry uint64
	for i := 0; i < len(l) || carry > 0; i++ {
		var beyond uint64 // the bit above the word of a sum
		if i < len(l) {
			carry, beyond = bits.Add64(carry, uint64(l[i]), 0)
		}
		at := i * size
		if at%64 == 0 {
			row = append(row, 0)
		}
		row[at/64] |= carry & (1<<size - 1) << (at % 64)
		carry = carry>>size | beyond<<(64-size)
	}
	return result(row)
}

// Digits returns the digits of x in the base 2^bits, the last one not 0.
func Digits(x api.Nat, bits int) ([]uint64, api.Errno) {
	if e := rows.CheckSizes(x); e != api.OK {
		return nil, e
	}
	if !isDigitSize(bits) {
		return nil, api.ErrArg
	}
	return digits[uint64](x, bits), api.OK
}

// Join returns the sum of l[i] 2^(bits i).
func Join(l []uint64, bits int) (api.Nat, api.Errno) {
	if !isDigitSize(bits) || len(l) > maxDigits {
		return nil, api.ErrArg
	}
	return number(l, bits)
}

// Mul returns x y.
func Mul(x, y api.Nat) (api.Nat, api.Errno) {
	if e := rows.CheckSizes(x, y); e != api.OK {
		return nil, e
	}
	return number(longProduct(digits[residue](x, productBits), digits[residue](y, productBits)), productBits)
}

// Square returns x x.
func Square(x api.Nat) (api.Nat, api.Errno) {
	if e := rows.CheckSizes(x); e != api.OK {
		return nil, e
	}
	return number(longSquare(digits[residue](x, productBits)), productBits)
}
