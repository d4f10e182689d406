package fast_test

import (
	"math"
	"testing"

	"reckoner/api"
	"reckoner/fast"
)

// P3.4: the counts for each number of bits.
func TestProducts(t *testing.T) {
	// Of 16 words Toom takes parts of 6 and of 2; of 32, of 11, 4 and 2; of 64, of 22, 8, 3 and 1; and so on.
	toom := []int{1, 4, 5 * 4, 25, 25 * 4, 125 * 4, 625, 625 * 4, 3125 * 4, 15625, 15625 * 4, 78125, 78125 * 4, 390625 * 4, 1953125}
	school, karatsuba := 1, 1
	for i, want := range toom {
		bits := 64 << i
		s, k, m, e := fast.Products(bits)
		if e != api.OK || s != school || k != karatsuba || m != want {
			t.Errorf("Products(%d) = %d, %d, %d, error %d; want %d, %d, %d", bits, s, k, m, e, school, karatsuba, want)
		}
		school *= 4
		karatsuba *= 3
	}
}

// P3.4: numbers of bits that are not counted.
func TestProductsOfWrongBits(t *testing.T) {
	for _, bits := range []int{0, 1, 2, 32, 63, 65, 96, 127, 192, 1<<20 - 64, 1<<20 - 1, 1<<20 + 1, 1<<20 + 64, 1 << 21, 1 << 40, math.MaxInt, -1, -64, -256, -1 << 20, math.MinInt} {
		if s, k, m, e := fast.Products(bits); e != api.ErrArg || s != 0 || k != 0 || m != 0 {
			t.Errorf("Products(%d) = %d, %d, %d, error %d", bits, s, k, m, e)
		}
	}
}

// P3.7: what the ways save of the schoolbook's products.
func TestSavedProducts(t *testing.T) {
	school, karatsuba, toom, e := fast.Products(1 << 20)
	if e != api.OK || 40*karatsuba >= school || toom >= karatsuba || toom == 0 {
		t.Errorf("Products(2^20) = %d, %d, %d, error %d", school, karatsuba, toom, e)
	}
}
