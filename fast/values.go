package fast

import (
	"math/bits"
	"slices"

	"reckoner/api"
	"reckoner/internal/rows"
)

const (
	maxPoint        = 10  // how far from 0 a polynomial is taken
	maxCoefficients = 100 // of such a polynomial
)

// fiveWeights are the weights of the coefficients in each of the five values.
var fiveWeights = [5][5]int{
	{1, 0, 0, 0, 0},
	{1, 1, 1, 1, 1},
	{1, -1, 1, -1, 1},
	{1, 2, 4, 8, 16},
	{0, 0, 0, 0, 1},
}

// backWeights are the weights of the five values in each coefficient, times what backDivisors has for it.
var backWeights = [5][5]int{
	{1, 0, 0, 0, 0},
	{-3, 6, -2, -1, 12},
	{-2, 1, 1, 0, -2},
	{3, -3, -1, 1, -12},
	{0, 0, 0, 0, 1},
}

var backDivisors = [5]uint64{1, 6, 2, 6, 1}

// checkInts returns ErrSize if one of the integers has too many words, with those that are 0.
func checkInts(l []api.Int) api.Errno {
	for _, x := range l {
		if e := rows.CheckSizes(x.Mag); e != api.OK {
			return e
		}
	}
	return api.OK
}

// fromInts returns the values of at most five integers, and 0 for those that are not there.
func fromInts(l []api.Int) [5]signed {
	var v [5]signed
	for i, x := range l {
		v[i] = fromInt(x)
	}
	return v
}

// toInts returns five sums as a result, or ErrSize if one of them is too large.
func toInts(v [5]signed) ([5]api.Int, api.Errno) {
	var l [5]api.Int
	for i, x := range v {
		z, e := toInt(x)
		if e != api.OK {
			return [5]api.Int{}, e
		}
		l[i] = z
	}
	return l, api.OK
}

// weighed returns the sum of v, each element times its weight.
func weighed(v [5]signed, weights [5]int) signed {
	terms := make([]term, 0, 5)
	for i, w := range weights {
		if w != 0 {
			terms = append(terms, term{v[i], w, 0})
		}
	}
	return sum(terms...)
}

// divided divides v in its own memory, and tells whether nothing is left.
func divided(v signed, d uint64) (signed, bool) {
	if d == 1 {
		return v, true
	}
	var rest uint64
	for i := len(v.words) - 1; i >= 0; i-- {
		v.words[i], rest = bits.Div64(rest, v.words[i], d)
	}
	return signed{v.sign, rows.Used(v.words)}, rest == 0
}

// five returns the five values of the polynomial with the coefficients c.
func five(c [5]signed) [5]signed {
	var v [5]signed
	for i, weights := range fiveWeights {
		v[i] = weighed(c, weights)
	}
	return v
}

// back returns the coefficients of the polynomial with the five values v, and whether they are integers.
func back(v [5]signed) ([5]signed, bool) {
	var c [5]signed
	for i, weights := range backWeights {
		var ok bool
		c[i], ok = divided(weighed(v, weights), backDivisors[i])
		if !ok {
			return [5]signed{}, false
		}
	}
	return c, true
}

// Value returns the sum of l[i] t^i.
func Value(l []api.Int, t int) (api.Int, api.Errno) {
	if e := checkInts(l); e != api.OK {
		return api.Int{}, e
	}
	if t < -maxPoint || t > maxPoint || len(l) > maxCoefficients {
		return api.Int{}, api.ErrArg
	}
	var v signed
	for _, x := range slices.Backward(l) {
		v = sum(term{v, t, 0}, term{fromInt(x), 1, 0})
	}
	return toInt(v)
}

// Five returns the values of the polynomial with the coefficients l at 0, 1, -1 and 2, and its coefficient of t^4.
func Five(l []api.Int) ([5]api.Int, api.Errno) {
	if e := checkInts(l); e != api.OK {
		return [5]api.Int{}, e
	}
	if len(l) > 5 {
		return [5]api.Int{}, api.ErrArg
	}
	return toInts(five(fromInts(l)))
}

// Back returns the coefficients of the polynomial with the five values v.
func Back(v [5]api.Int) ([5]api.Int, api.Errno) {
	if e := checkInts(v[:]); e != api.OK {
		return [5]api.Int{}, e
	}
	c, ok := back(fromInts(v[:]))
	if !ok {
		return [5]api.Int{}, api.ErrNone
	}
	return toInts(c)
}
