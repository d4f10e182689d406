package gcd

import (
	"slices"

	"reckoner/api"
	"reckoner/divide"
	"reckoner/internal/rows"
	"reckoner/nat"
)

// What the chapter allows.
const (
	maxCoprime = 100 // numbers that are compared with each other
	maxBase    = 20  // numbers that are taken apart
)

// Coprime tells whether the greatest common divisor of any two of at most 100 numbers is 1.
func Coprime(l []api.Nat) (bool, api.Errno) {
	if e := checkList(l, maxCoprime); e != api.OK {
		return false, e
	}
	for i, x := range l {
		for _, y := range l[:i] {
			if !isOne(divisor(x, y)) {
				return false, api.OK
			}
		}
	}
	return true, api.OK
}

// stripped returns x, divided by g as often as g divides it. x is not 0, g greater than 1.
func stripped(x, g api.Nat) api.Nat {
	q, rest, _ := divide.DivMod(x, g)
	if len(rest) > 0 {
		return x
	}
	if 2*nat.Len(g)-1 <= nat.Len(q) { // otherwise the square is longer
		square, _ := nat.Square(g)
		q = stripped(q, square)
	}
	z, rest, _ := divide.DivMod(q, g)
	if len(rest) > 0 {
		return q
	}
	return z
}

// apart takes two numbers that are not 0 apart: what it returns are numbers any two of which have the divisor 1, some of them 1 themselves, and x and y are products of them. The first one divides only x, the second one only y.
func apart(x, y api.Nat) []api.Nat {
	l := []api.Nat{x, y}
	met := map[[2]int]bool{} // the places, the lower one first, of pairs that are known to have the divisor 1
	for k := 1; k < len(l); k++ {
		for i := range k {
			if met[[2]int{i, k}] {
				continue
			}
			met[[2]int{i, k}] = true
			g := divisor(l[i], l[k])
			if isOne(g) {
				continue
			}
			l[i], l[k] = stripped(l[i], g), stripped(l[k], g)
			for j := range l { // What has no divisor with one of both has none with g.
				if j != i && j != k && (met[[2]int{min(i, j), max(i, j)}] || met[[2]int{min(j, k), max(j, k)}]) {
					met[[2]int{j, len(l)}] = true
				}
			}
			l = append(l, g)
		}
	}
	return l
}

// joined returns the base of x and of a base's numbers.
func joined(base []api.Nat, x api.Nat) []api.Nat {
	var z []api.Nat
	for _, p := range base {
		parts := apart(p, x)
		x = parts[1]
		z = append(z, parts[0])
		z = append(z, parts[2:]...)
	}
	return slices.DeleteFunc(append(z, x), isOne)
}

// Base returns the rising list of numbers greater than 1 that is left of at most 20 numbers when common divisors are taken apart.
func Base(l []api.Nat) ([]api.Nat, api.Errno) {
	if e := rows.CheckSizes(l...); e != api.OK {
		return nil, e
	}
	if len(l) > maxBase || slices.ContainsFunc(l, isZero) {
		return nil, api.ErrArg
	}
	var base []api.Nat
	for _, x := range l {
		base = joined(base, nat.Trim(x))
	}
	slices.SortFunc(base, nat.Cmp)
	return base, api.OK
}
