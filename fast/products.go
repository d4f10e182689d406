package fast

import (
	"reckoner/api"
	"reckoner/internal/rows"
	"reckoner/nat"
)

// The numbers of words from which on a caller may have numbers taken apart.
const (
	minLeast = 3
	maxLeast = 64
)

// checkLeast returns the error of numbers that are multiplied by a way that is told when to take them apart.
func checkLeast(least int, l ...api.Nat) api.Errno {
	if e := rows.CheckSizes(l...); e != api.OK {
		return e
	}
	if least < minLeast || least > maxLeast {
		return api.ErrArg
	}
	return api.OK
}

// product returns x y by a way that takes apart numbers of at least so many words.
func product(x, y api.Nat, least int, way func(x, y api.Nat) api.Nat) (api.Nat, api.Errno) {
	x, y = rows.Used(x), rows.Used(y)
	if min(len(x), len(y)) < least {
		return nat.Mul(x, y)
	}
	if len(x)+len(y)-1 > api.MaxWords {
		return nil, api.ErrSize
	}
	return result(way(x, y))
}

// Karatsuba returns x y.
func Karatsuba(x, y api.Nat, least int) (api.Nat, api.Errno) {
	if e := checkLeast(least, x, y); e != api.OK {
		return nil, e
	}
	return product(x, y, least, apart(least).karatsuba)
}

// Toom returns x y.
func Toom(x, y api.Nat, least int) (api.Nat, api.Errno) {
	if e := checkLeast(least, x, y); e != api.OK {
		return nil, e
	}
	return product(x, y, least, apart(least).toom)
}

// Square returns x x.
func Square(x api.Nat, least int) (api.Nat, api.Errno) {
	if e := checkLeast(least, x); e != api.OK {
		return nil, e
	}
	x = rows.Used(x)
	if len(x) < least {
		return nat.Square(x)
	}
	if 2*len(x)-1 > api.MaxWords {
		return nil, api.ErrSize
	}
	return result(apart(least).square(x))
}

// Mul returns x y.
func Mul(x, y api.Nat) (api.Nat, api.Errno) {
	if e := rows.CheckSizes(x, y); e != api.OK {
		return nil, e
	}
	return product(x, y, karatsubaFrom, quick)
}

// LowMul returns what x y leaves by B^n.
func LowMul(x, y api.Nat, n int) (api.Nat, api.Errno) {
	if e := rows.CheckSizes(x, y); e != api.OK {
		return nil, e
	}
	if n < 0 || n > api.MaxWords {
		return nil, api.ErrArg
	}
	// Of the four products of halves, that of the higher ones is beyond what is left. The other three are no longer than a number may be, while x y might be.
	half := (n + 1) / 2
	x0, x1 := halves(below(x, n), half)
	y0, y1 := halves(below(y, n), half)
	z := sum(
		placed(quick(x0, y0), 0),
		placed(quick(x0, y1), half),
		placed(quick(x1, y0), half),
	)
	return below(z.words, n), api.OK
}
