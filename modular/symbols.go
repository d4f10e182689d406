package modular

import (
	"reckoner/api"
	"reckoner/divide"
	"reckoner/nat"
)

// sign returns 1 or -1: by which factor the symbol of 2^zeros a for n differs from that of n for a. Both are odd; they are told by their lowest words.
func sign(zeros int, a, n uint64) int {
	z := 1
	if zeros%2 == 1 && (n%8 == 3 || n%8 == 5) {
		z = -z
	}
	if a%4 == 3 && n%4 == 3 {
		z = -z
	}
	return z
}

// symbol returns the Jacobi symbol of a for an odd n, a less than n, both canonical.
func symbol(a, n api.Nat) int {
	z := 1
	for len(a) > 0 {
		zeros, _ := nat.Bits(a)
		a, _ = nat.Right(a, zeros)
		z *= sign(zeros, a[0], n[0])
		_, rest, _ := divide.DivMod(n, a)
		a, n = rest, a
	}
	if nat.Len(n) > 1 { // a common divisor
		return 0
	}
	return z
}

// Jacobi returns the Jacobi symbol of a for an odd n.
func Jacobi(a, n api.Nat) (int, api.Errno) {
	m, e := newModulus(n, a)
	if e != api.OK {
		return 0, e
	}
	if !m.isOdd() {
		return 0, api.ErrArg
	}
	return symbol(m.left(a), m.n), api.OK
}
