package fast

import (
	"reckoner/api"
	"reckoner/nat"
)

// From so many words of the shorter number on, a way is quicker than the one before it.
const (
	karatsubaFrom = 50
	toomFrom      = 80
)

// ways are the ways to multiply canonical numbers. Their product has at most api.MaxWords words, or one word more if both numbers have enough words to be taken apart.
type ways interface {
	school(x, y api.Nat) api.Nat
	karatsuba(x, y api.Nat) api.Nat
	toom(x, y api.Nat) api.Nat
}

// apart is the ways that take numbers of at least so many words apart, and so on with their parts. It is at least 3, so that all of them end: Toom's values of a number of two words may have two words again, but those of a longer one have fewer than it has.
type apart int

func (least apart) school(x, y api.Nat) api.Nat {
	z, _ := nat.Mul(x, y)
	return z
}

// karatsuba makes three products of halves. Those in the middle are of differences, which are no longer than a half; a sum might be.
func (least apart) karatsuba(x, y api.Nat) api.Nat {
	var product func(x, y api.Nat) api.Nat
	product = func(x, y api.Nat) api.Nat {
		if min(len(x), len(y)) < int(least) {
			return least.school(x, y)
		}
		half := (max(len(x), len(y)) + 1) / 2
		x0, x1 := halves(x, half)
		y0, y1 := halves(y, half)
		dx, dy := difference(x1, x0), difference(y1, y0)
		gap := signed{dx.sign.times(dy.sign), product(dx.words, dy.words)}
		return fromHalves(product(x0, y0), product(x1, y1), gap, half)
	}
	return product(x, y)
}

// square is karatsuba of a number with itself.
func (least apart) square(x api.Nat) api.Nat {
	if len(x) < int(least) {
		z, _ := nat.Square(x)
		return z
	}
	half := (len(x) + 1) / 2
	x0, x1 := halves(x, half)
	gap := natural(least.square(difference(x1, x0).words))
	return fromHalves(least.square(x0), least.square(x1), gap, half)
}

// difference returns x - y.
func difference(x, y api.Nat) signed {
	return sum(placed(x, 0), term{natural(y), -1, 0})
}

// fromHalves returns the product of two numbers that have so many words in their lower halves, from the products of the lower halves, of the higher halves, and of the differences of both.
func fromHalves(low, high api.Nat, gap signed, half int) api.Nat {
	return sum(
		placed(low, 0),
		placed(low, half),
		placed(high, half),
		term{gap, -1, half},
		placed(high, 2*half),
	).words
}

// toom makes five products of values of the thirds, as polynomials.
func (least apart) toom(x, y api.Nat) api.Nat {
	var product func(x, y api.Nat) api.Nat
	product = func(x, y api.Nat) api.Nat {
		if min(len(x), len(y)) < int(least) {
			return least.school(x, y)
		}
		third := (max(len(x), len(y)) + 2) / 3
		v, w := valuesOfThirds(x, third), valuesOfThirds(y, third)
		for i := range v {
			v[i] = signed{v[i].sign.times(w[i].sign), product(v[i].words, w[i].words)}
		}
		c, _ := back(v)
		return fromThirds(c, third)
	}
	return product(x, y)
}

// valuesOfThirds returns five values of the polynomial of the at most three pieces of x of n words. As its degree is at most 2, the last value is the coefficient of t^2, so that a product has that of t^4.
func valuesOfThirds(x api.Nat, n int) [5]signed {
	var c [5]signed
	for at, piece := range pieces(x, n) {
		c[at/n] = natural(piece)
	}
	v := five(c)
	v[4] = c[2]
	return v
}

// fromThirds returns the value of the polynomial with the coefficients c at B^n.
func fromThirds(c [5]signed, n int) api.Nat {
	terms := make([]term, 0, 5)
	for i, v := range c {
		if len(v.words) > 0 {
			terms = append(terms, term{v, 1, n * i})
		}
	}
	return sum(terms...).words
}

// quickest returns the quickest of the ways for numbers of about n words.
func quickest(w ways, n int) func(x, y api.Nat) api.Nat {
	switch {
	case n < karatsubaFrom:
		return w.school
	case n < toomFrom:
		return w.karatsuba
	}
	return w.toom
}

// quick multiplies as ways do, each pair of numbers by the way that is the quickest for it.
func quick(x, y api.Nat) api.Nat {
	if len(x) < len(y) {
		x, y = y, x
	}
	n := len(y)
	if n < karatsubaFrom || len(x) < 2*n {
		return quickest(apart(karatsubaFrom), n)(x, y)
	}
	// The ways are for numbers of about the same length.
	var terms []term
	for at, piece := range pieces(x, n) {
		terms = append(terms, placed(quick(piece, y), at))
	}
	return sum(terms...).words
}
