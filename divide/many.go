package divide

import (
	"reckoner/api"
	"reckoner/fast"
	"reckoner/internal/rows"
	"reckoner/nat"
)

// maxDivisors is how many divisors one number may have.
const maxDivisors = 1000

// product returns the product of all numbers, of which there is at least one, if it is no longer than a number may be. Products of halves are multiplied, so that both are of about the same length.
func product(l ...api.Nat) api.Nat {
	half := len(l) / 2
	if half == 0 {
		return l[0]
	}
	z, _ := fast.Mul(product(l[:half]...), product(l[half:]...))
	return z
}

// length returns the sum of the numbers of words.
func length(l []api.Nat) int {
	n := 0
	for _, x := range l {
		n += len(x)
	}
	return n
}

// leave writes what x leaves by each number of l, at least one, to the same place of z.
func leave(z []api.Nat, x api.Nat, l []api.Nat) {
	half := len(l) / 2
	if half == 0 {
		_, z[0], _ = DivMod(x, l[0])
		return
	}
	if 2*length(l) <= len(x) {
		_, x, _ = DivMod(x, product(l...))
	}
	leave(z[:half], x, l[:half])
	leave(z[half:], x, l[half:])
}

// checkMany returns the error of a number and its divisors.
func checkMany(x api.Nat, l []api.Nat) api.Errno {
	if e := rows.CheckSizes(x); e != api.OK {
		return e
	}
	if e := rows.CheckSizes(l...); e != api.OK {
		return e
	}
	if len(l) > maxDivisors {
		return api.ErrArg
	}
	for _, y := range l {
		if nat.Len(y) == 0 {
			return api.ErrZero
		}
	}
	return api.OK
}

// Many returns what x leaves by each number of l.
func Many(x api.Nat, l []api.Nat) ([]api.Nat, api.Errno) {
	if e := checkMany(x, l); e != api.OK || len(l) == 0 {
		return nil, e
	}
	divisors := make([]api.Nat, len(l))
	for i, y := range l {
		divisors[i] = rows.Used(y)
	}
	z := make([]api.Nat, len(l))
	leave(z, rows.Used(x), divisors)
	return z, api.OK
}
