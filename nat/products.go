package nat

import (
	"iter"
	"math/bits"

	"reckoner/api"
	"reckoner/internal/rows"
	"reckoner/words"
)

// maxPower is the greatest exponent of a power.
const maxPower = 1000000

// column is a sum of products of two words each, in three words: room for more products than a number has words.
type column struct {
	low, middle, high uint64
}

// wide returns v w as a column.
func wide(v, w uint64) column {
	middle, low := words.Wide(v, w)
	return column{low: low, middle: middle}
}

// plus returns c + d.
func (c column) plus(d column) column {
	var carry uint64
	c.low, carry = bits.Add64(c.low, d.low, 0)
	c.middle, carry = bits.Add64(c.middle, d.middle, carry)
	c.high += d.high + carry
	return c
}

// next returns what c carries to the column above it.
func (c column) next() column {
	return column{low: c.middle, middle: c.high}
}

// productWords gives the words of x y, the least significant first, column by column, so that no row of a partial product is made.
func productWords(x, y api.Nat) iter.Seq[uint64] {
	return func(yield func(uint64) bool) {
		var sum column
		for k := range len(x) + len(y) {
			for i := max(0, k-len(y)+1); i < len(x) && i <= k; i++ {
				sum = sum.plus(wide(x[i], y[k-i]))
			}
			if !yield(sum.low) {
				return
			}
			sum = sum.next()
		}
	}
}

// squareWords gives the words of x x as productWords does, with half of its products.
func squareWords(x api.Nat) iter.Seq[uint64] {
	return func(yield func(uint64) bool) {
		var sum column
		addTwice := func(pairs column) {
			sum = sum.plus(pairs).plus(pairs)
		}
		for k := range 2 * len(x) {
			var pairs column // the products of two words at different places, each once
			for i := max(0, k-len(x)+1); i < k-i; i++ {
				pairs = pairs.plus(wide(x[i], x[k-i]))
			}
			addTwice(pairs)
			if k%2 == 0 {
				sum = sum.plus(wide(x[k/2], x[k/2]))
			}
			if !yield(sum.low) {
				return
			}
			sum = sum.next()
		}
	}
}

// gathered returns the number of a list of n words, of which at most the last one is 0.
func gathered(list iter.Seq[uint64], n int) (api.Nat, api.Errno) {
	if n-1 > api.MaxWords {
		return nil, api.ErrSize
	}
	z := make(api.Nat, 0, n)
	for w := range list {
		z = append(z, w)
	}
	return result(z)
}

// Mul returns x y.
func Mul(x, y api.Nat) (api.Nat, api.Errno) {
	if e := rows.CheckSizes(x, y); e != api.OK {
		return nil, e
	}
	x, y = rows.Used(x), rows.Used(y)
	if len(x) == 0 || len(y) == 0 {
		return nil, api.OK
	}
	return gathered(productWords(x, y), len(x)+len(y))
}

// Square returns x x.
func Square(x api.Nat) (api.Nat, api.Errno) {
	if e := rows.CheckSizes(x); e != api.OK {
		return nil, e
	}
	x = rows.Used(x)
	return gathered(squareWords(x), 2*len(x))
}

// Pow returns x to the power of k, for k from 0 to 10^6.
func Pow(x api.Nat, k int) (api.Nat, api.Errno) {
	if e := rows.CheckSizes(x); e != api.OK {
		return nil, e
	}
	if k < 0 || k > maxPower {
		return nil, api.ErrArg
	}
	// From the highest bit of k on, so that no power on the way is greater than the last one.
	power, e := FromWord(1), api.OK
reading:
	for i := bits.Len(uint(k)) - 1; i >= 0; i-- {
		power, e = Square(power)
		switch {
		case e != api.OK:
			break reading
		case k>>i&1 == 1:
			if power, e = Mul(power, x); e != api.OK {
				break reading
			}
		}
	}
	return power, e
}
