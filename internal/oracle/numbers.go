package oracle

import (
	"slices"

	"reckoner/api"
)

// Zeros returns a 0 of n words.
func Zeros(n int) api.Nat {
	return make(api.Nat, n)
}

// Ones returns 2^(64 n) - 1.
func Ones(n int) api.Nat {
	return slices.Repeat(api.Nat{Top}, n)
}

// Alone returns 2^s.
func Alone(s int) api.Nat {
	return Power(s).Words()
}
