package fast

import (
	"reckoner/api"
)

// maxBits is the greatest length of numbers of which products are counted.
const maxBits = 1 << 20

// Products returns how many products of two words each way takes for two numbers with so many bits.
func Products(bits int) (school, karatsuba, toom int, e api.Errno) {
	if bits < 64 || bits > maxBits || bits&(bits-1) != 0 {
		return 0, 0, 0, api.ErrArg
	}
	n := bits / 64
	return schoolProducts(n), karatsubaProducts(n), toomProducts(n), api.OK
}

// schoolProducts counts the products of two words for two numbers of n words.
func schoolProducts(n int) int {
	return n * n
}

// karatsubaProducts counts as schoolProducts does, for an n that is a power of 2.
func karatsubaProducts(n int) int {
	if n == 1 {
		return 1
	}
	return 3 * karatsubaProducts(n/2)
}

// toomProducts counts as schoolProducts does.
func toomProducts(n int) int {
	if n <= 2 {
		return schoolProducts(n)
	}
	return 5 * toomProducts((n+2)/3)
}
