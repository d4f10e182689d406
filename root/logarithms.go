package root

import (
	"reckoner/api"
	"reckoner/divide"
	"reckoner/internal/rows"
	"reckoner/nat"
)

// squares returns base, its square, the square of that, and so on, as long as they are not greater than x. The base is at least 2.
func squares(x, base api.Nat) []api.Nat {
	var l []api.Nat
	for power := base; nat.Cmp(power, x) <= 0; {
		l = append(l, power)
		if 2*nat.Len(power)-1 > nat.Len(x) { // the next one is longer than x
			break
		}
		power, _ = nat.Square(power)
	}
	return l
}

// Log returns the greatest k with base^k <= x.
func Log(x, base api.Nat) (int, api.Errno) {
	if e := rows.CheckSizes(x, base); e != api.OK {
		return 0, e
	}
	switch {
	case nat.Len(x) == 0:
		return 0, api.ErrZero
	case nat.Len(base) < 2:
		return 0, api.ErrArg
	}
	// Bit by bit of k, from the highest one on: what is left of x is its quotient by the powers that were found.
	k := 0
	l := squares(x, base)
	for i := len(l) - 1; i >= 0; i-- {
		k *= 2
		if nat.Cmp(l[i], x) <= 0 {
			x, _, _ = divide.DivMod(x, l[i])
			k++
		}
	}
	return k, api.OK
}
