package gcd

import (
	"reckoner/api"
	"reckoner/nat"
)

// maxElements is how many numbers a continuant may have.
const maxElements = 10000

// pair is a row of a matrix.
type pair [2]api.Nat

// times returns the row, times the matrix q 1, 1 0.
func (p pair) times(q api.Nat) (pair, api.Errno) {
	z, e := nat.Mul(q, p[0])
	if e == api.OK {
		z, e = nat.Add(z, p[1])
	}
	return pair{z, p[0]}, e
}

// next returns the quotient at the beginning of l, which is not empty, and what of l is behind it. As q, 0, r leave of a row what q + r leaves, they are one quotient: so each number of a row is multiplied only when it has become greater.
func next(l []api.Nat) (q api.Nat, rest []api.Nat, e api.Errno) {
	q, rest = l[0], l[1:]
	for e == api.OK && len(rest) > 1 && isZero(rest[0]) {
		q, e = nat.Add(q, rest[1])
		rest = rest[2:]
	}
	return q, rest, e
}

// timesAll returns the row, times the matrices of a list. Its numbers do not become less on the way, so that it is ErrSize just if one of them is too large anywhere.
func (p pair) timesAll(l []api.Nat) (pair, api.Errno) {
	for len(l) > 0 {
		if isZero(p[0]) { // whatever the quotient
			p, l = pair{p[1], nil}, l[1:]
			continue
		}
		q, rest, e := next(l)
		if e == api.OK {
			p, e = p.times(q)
		}
		if e != api.OK {
			return pair{}, e
		}
		l = rest
	}
	return p, api.OK
}

// Continuant returns the continuant of at most 10000 numbers.
func Continuant(l []api.Nat) (api.Nat, api.Errno) {
	if e := checkList(l, maxElements); e != api.OK {
		return nil, e
	}
	p, e := pair{one(), nil}.timesAll(l)
	return p[0], e
}

// Matrix returns the product of the matrices q 1, 1 0 of at most 10000 numbers, row by row.
func Matrix(l []api.Nat) ([4]api.Nat, api.Errno) {
	if e := checkList(l, maxElements); e != api.OK {
		return [4]api.Nat{}, e
	}
	upper, e := pair{one(), nil}.timesAll(l)
	if e != api.OK {
		return [4]api.Nat{}, e
	}
	lower, e := pair{nil, one()}.timesAll(l)
	if e != api.OK {
		return [4]api.Nat{}, e
	}
	return [4]api.Nat{upper[0], upper[1], lower[0], lower[1]}, api.OK
}
