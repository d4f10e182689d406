// Package oracle is for the project's tests. It calculates with natural numbers digit by digit, so that it owes nothing to the packages that are checked with it or to wide products of the machine, and makes rows of words to check them with. Long numbers are multiplied word by word, by what internal/rows has.
package oracle

import "cmp"

// Number is a natural number in the base 256, the least significant digit first. Digits that are 0 at its end do not change its value.
type Number []int

// Value returns the number with these words, the least significant first.
func Value(words ...uint64) Number {
	var n Number
	for _, w := range words {
		for range 8 {
			n = append(n, int(w&255))
			w >>= 8
		}
	}
	return n
}

// Power returns 2^s.
func Power(s int) Number {
	return append(make(Number, s/8), 1<<(s%8))
}

// carried turns digits of any size, also less than 0, into digits of the base, without zeros at the end.
func carried(digits []int) Number {
	var n Number
	carry := 0
	for i := 0; i < len(digits) || carry > 0; i++ {
		if i < len(digits) {
			carry += digits[i]
		}
		n = append(n, carry&255)
		carry >>= 8
	}
	for len(n) > 0 && n[len(n)-1] == 0 {
		n = n[:len(n)-1]
	}
	return n
}

// Plus returns n + m.
func (n Number) Plus(m Number) Number {
	digits := make([]int, max(len(n), len(m)))
	for i, d := range n {
		digits[i] += d
	}
	for i, d := range m {
		digits[i] += d
	}
	return carried(digits)
}

// Minus returns n - m for an m that is not greater than n.
func (n Number) Minus(m Number) Number {
	digits := make([]int, max(len(n), len(m)))
	copy(digits, n)
	for i, d := range m {
		digits[i] -= d
	}
	return carried(digits)
}

// Times returns n m.
func (n Number) Times(m Number) Number {
	digits := make([]int, len(n)+len(m))
	for i, d := range n {
		for j, e := range m {
			digits[i+j] += d * e
		}
	}
	return carried(digits)
}

// Above returns n 2^(64 words).
func (n Number) Above(words int) Number {
	return append(make(Number, 8*words), n...)
}

// Compare returns -1, 0 or 1, as n is less than, equal to or greater than m.
func (n Number) Compare(m Number) int {
	a, b := carried(n), carried(m)
	if len(a) != len(b) {
		return cmp.Compare(len(a), len(b))
	}
	for i := len(a) - 1; i >= 0; i-- {
		if a[i] != b[i] {
			return cmp.Compare(a[i], b[i])
		}
	}
	return 0
}

// Bit tells whether the bit of 2^i is 1.
func (n Number) Bit(i int) bool {
	return i/8 < len(n) && n[i/8]>>(i%8)&1 == 1
}

// Words returns the words of n, the last one not 0.
func (n Number) Words() []uint64 {
	var row []uint64
	for i, d := range carried(n) {
		if i%8 == 0 {
			row = append(row, 0)
		}
		row[i/8] |= uint64(d) << (i % 8 * 8)
	}
	return row
}
