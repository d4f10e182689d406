package gcd

import (
	"math/bits"

	"reckoner/api"
	"reckoner/internal/rows"
	"reckoner/nat"
)

// zeros returns the number of bits 0 below the lowest bit 1 of x, which is not 0.
func zeros(x api.Nat) int {
	i := 0
	for x[i] == 0 {
		i++
	}
	return 64*i + bits.TrailingZeros64(x[i])
}

// halved returns x, which is not 0, without the bits 0 below its lowest bit 1. It works in the memory of x.
func halved(x api.Nat) api.Nat {
	s := zeros(x)
	if s == 0 {
		return x
	}
	words, s := s/64, s%64
	n := len(x) - words
	for i := range n - 1 {
		x[i] = x[i+words]>>s | x[i+words+1]<<(64-s)
	}
	x[n-1] = x[n-1+words] >> s
	return rows.Used(x[:n])
}

// Binary returns the greatest common divisor of a and b.
func Binary(a, b api.Nat) (api.Nat, api.Errno) {
	if e := rows.CheckSizes(a, b); e != api.OK {
		return nil, e
	}
	x, y := nat.Trim(a), nat.Trim(b)
	switch {
	case len(x) == 0:
		return y, api.OK
	case len(y) == 0:
		return x, api.OK
	}
	both := min(zeros(x), zeros(y)) // of the bits 0 below, which are the divisor's too
	x, y = halved(x), halved(y)
	for {
		switch nat.Cmp(x, y) {
		case 0:
			return nat.Left(x, both)
		case -1:
			x, y = y, x
		}
		// The difference of two odd numbers is even, which no common divisor is.
		rows.Take(x, y, 1)
		x = halved(rows.Used(x))
	}
}
