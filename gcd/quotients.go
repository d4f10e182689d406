package gcd

import (
	"reckoner/api"
	"reckoner/internal/rows"
	"reckoner/nat"
)

// checkQuotients returns the error of two numbers of which there are to be quotients.
func checkQuotients(a, b api.Nat) api.Errno {
	if e := rows.CheckSizes(a, b); e != api.OK {
		return e
	}
	if isZero(b) {
		return api.ErrZero
	}
	return api.OK
}

// quotients returns the quotients up to the walk's end.
func (w *walk) quotients() []api.Nat {
	var l []api.Nat
	for s := range w.strides() {
		l = append(l, s.numbers()...)
	}
	return l
}

// Quotients returns the quotients of a and b.
func Quotients(a, b api.Nat) ([]api.Nat, api.Errno) {
	if e := checkQuotients(a, b); e != api.OK {
		return nil, e
	}
	return newWalk(a, b, 0).quotients(), api.OK
}

// Steps returns how many quotients a and b have.
func Steps(a, b api.Nat) (int, api.Errno) {
	if e := checkQuotients(a, b); e != api.OK {
		return 0, e
	}
	n := 0
	for s := range newWalk(a, b, 0).strides() {
		n += s.count()
	}
	return n, api.OK
}

// Half returns the quotients of a and b up to half way, and the numbers that are left there.
func Half(a, b api.Nat) (quotients []api.Nat, c, d api.Nat, e api.Errno) {
	if e := rows.CheckSizes(a, b); e != api.OK {
		return nil, nil, nil, e
	}
	if nat.Cmp(a, b) < 0 {
		return nil, nil, nil, api.ErrArg
	}
	w := newWalk(a, b, (nat.Len(a)+1)/2)
	quotients = w.quotients()
	return quotients, nat.Trim(w.a), nat.Trim(w.b), api.OK
}

// sum returns x v + y w.
func sum(x api.Nat, v uint64, y api.Nat, w uint64) api.Nat {
	z := make(api.Nat, max(len(x), len(y))+2)
	rows.Add(z, x, v)
	rows.Add(z, y, w)
	return rows.Used(z)
}

// back returns x and y of the numbers before the stride, from those after it. As their signs differ, and change with each quotient, they come without signs.
func (s stride) back(x, y api.Nat) (api.Nat, api.Nat) {
	if s.block == still {
		product, _ := nat.Mul(s.single, y)
		return y, sum(x, 1, product, 1)
	}
	return sum(x, s.block.bd, y, s.block.bc), sum(x, s.block.ad, y, s.block.ac)
}

// Extended returns the greatest common divisor g of a and b, and integers x and y with a x + b y = g, x the least from 0 on.
func Extended(a, b api.Nat) (g api.Nat, x, y api.Int, e api.Errno) {
	if e := rows.CheckSizes(a, b); e != api.OK {
		return nil, api.Int{}, api.Int{}, e
	}
	w := newWalk(a, b, 0)
	odd := false // the number of quotients
	// back walks to the end, where a is the divisor, and steps back to where it was called.
	var back func() (x, y api.Nat)
	back = func() (x, y api.Nat) {
		s, more := w.next()
		if !more {
			return one(), nil
		}
		if s.count()%2 == 1 {
			odd = !odd
		}
		x, y = back()
		return s.back(x, y)
	}
	x.Mag, y.Mag = back()
	g = nat.Trim(w.a)
	if odd && len(x.Mag) > 0 { // x is less than 0
		x.Mag, _ = nat.Sub(quotient(b, g), x.Mag)
		y.Mag, _ = nat.Sub(quotient(a, g), y.Mag)
		odd = false
	}
	y.Neg = !odd && len(y.Mag) > 0
	return g, x, y, api.OK
}
