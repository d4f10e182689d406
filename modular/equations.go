package modular

import (
	"reckoner/api"
	"reckoner/divide"
	"reckoner/gcd"
	"reckoner/internal/rows"
	"reckoner/nat"
)

// What the chapter allows of moduli whose remainders are joined.
const (
	maxModuli       = 50
	maxModulusWords = 8
)

// solve returns, for residues a and b, the least x with a x = b modulo n, and the least number greater than 0 that may be added to it again and again; or ErrNone.
func (m modulus) solve(a, b api.Nat) (x, step api.Nat, e api.Errno) {
	g, u, _, _ := gcd.Extended(a, m.n) // a u = g modulo n, and u is less than n / g
	times, e := divide.Exact(b, g)
	if e != api.OK {
		return nil, nil, e
	}
	step, _ = divide.Exact(m.n, g)
	return modulus{step}.product(u.Mag, times), step, api.OK
}

// Inverse returns the residue that has with x a product of 1 modulo n.
func Inverse(x, n api.Nat) (api.Nat, api.Errno) {
	m, e := ofResidues(n, x)
	if e != api.OK {
		return nil, e
	}
	z, _, e := m.solve(x, m.unit())
	return z, e
}

// Solve returns the least x with a x = b modulo n, and the least number greater than 0 that may be added to it again and again.
func Solve(a, b, n api.Nat) (x, step api.Nat, e api.Errno) {
	m, e := ofResidues(n, a, b)
	if e != api.OK {
		return nil, nil, e
	}
	return m.solve(a, b)
}

// checkRemainders returns the error of a list of remainders and of their moduli.
func checkRemainders(l, moduli []api.Nat) api.Errno {
	if e := rows.CheckSizes(l...); e != api.OK {
		return e
	}
	if e := rows.CheckSizes(moduli...); e != api.OK {
		return e
	}
	if len(moduli) < 1 || len(moduli) > maxModuli || len(l) != len(moduli) {
		return api.ErrArg
	}
	for i, n := range moduli {
		if !hasWords(n, maxModulusWords) || nat.Cmp(l[i], n) >= 0 { // as it is for a modulus of 0
			return api.ErrArg
		}
	}
	return api.OK
}

// Remainders returns the least number that leaves all of l by the moduli, and the least common multiple of these.
func Remainders(l, moduli []api.Nat) (x, n api.Nat, e api.Errno) {
	if e := checkRemainders(l, moduli); e != api.OK {
		return nil, nil, e
	}
	n = one()
	// join adds n to x so many times, and makes n so many times what it was.
	join := func(times, step api.Nat) {
		more, _ := nat.Mul(n, times)
		x, _ = nat.Add(x, more)
		n, _ = nat.Mul(n, step)
	}
joining:
	for i, r := range l {
		m := modulus{rows.Used(moduli[i])}
		var times, step api.Nat
		times, step, e = m.solve(m.left(n), m.difference(r, m.left(x)))
		switch e {
		case api.OK:
			join(times, step)
		default:
			x, n = nil, nil
			break joining
		}
	}
	return x, n, e
}
