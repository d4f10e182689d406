package fast

import (
	"math/bits"

	"reckoner/api"
	"reckoner/internal/rows"
)

// sign tells on which side of 0 a number is.
type sign struct {
	minus bool
}

// times returns the sign of a product, from those of its factors.
func (s sign) times(t sign) sign {
	return sign{minus: s != t}
}

// signed is an integer with canonical words. There may be more than api.MaxWords of them, which nat's sums do not take: what is met on the way to a result may be longer than the result.
type signed struct {
	sign  sign
	words api.Nat
}

// natural returns x as a signed number.
func natural(x api.Nat) signed {
	return signed{words: x}
}

// fromInt returns the value of x, in the same memory.
func fromInt(x api.Int) signed {
	return signed{sign{x.Neg}, rows.Used(x.Mag)}
}

// toInt returns v as a result, or ErrSize if it is too large. v is a sum: in memory of its own, and not less than 0 if it is 0.
func toInt(v signed) (api.Int, api.Errno) {
	mag, e := result(v.words)
	if e != api.OK {
		return api.Int{}, e
	}
	return api.Int{Neg: v.sign.minus, Mag: mag}, api.OK
}

// term is value weight B^at.
type term struct {
	value  signed
	weight int
	at     int
}

// placed returns x B^at.
func placed(x api.Nat, at int) term {
	return term{natural(x), 1, at}
}

// sum returns the sum of all terms, in new memory. The sizes of their weights are together less than 2^63.
func sum(terms ...term) signed {
	length := 0
	for _, t := range terms {
		length = max(length, t.at+len(t.value.words))
	}
	// Modulo B^(length + 1): the sum is nearer to 0 than half of that, so that it is less than 0 just if the highest bit is 1.
	z := make(api.Nat, length+1)
	for _, t := range terms {
		size := uint64(max(t.weight, -t.weight))
		if t.value.sign == (sign{t.weight < 0}) {
			rows.Add(z[t.at:], t.value.words, size)
		} else {
			rows.Take(z[t.at:], t.value.words, size)
		}
	}
	s := sign{z[length]>>63 == 1}
	if s.minus {
		negate(z)
	}
	return signed{s, rows.Used(z)}
}

// negate turns the row z into -z, modulo what it holds.
func negate(z api.Nat) {
	var borrow uint64
	for i, w := range z {
		z[i], borrow = bits.Sub64(0, w, borrow)
	}
}
