package divide

import (
	"iter"
	"math/bits"

	"reckoner/api"
	"reckoner/fast"
	"reckoner/internal/rows"
	"reckoner/nat"
)

// sizes gives the numbers of words of Newton's steps, from first up to n, each at most twice the one before it, less first - 1.
func sizes(first, n int) iter.Seq[int] {
	return func(yield func(int) bool) {
		more := n - first
		for i := bits.Len(uint(more)); i >= 0; i-- {
			if !yield(first + more>>i) {
				return
			}
		}
	}
}

// complement returns B^n - 1 - x, as a row of n words, for an x of at most n words.
func complement(x api.Nat, n int) api.Nat {
	z := make(api.Nat, n)
	copy(z, x)
	for i, w := range z {
		z[i] = ^w
	}
	return z
}

// countedUp returns quotient and remainder of x by v, for a q that is the quotient or a little less, and the rest x - q v. It works in their memory.
func countedUp(q, rest, v api.Nat) quotient {
	for nat.Cmp(rest, v) >= 0 {
		rows.Take(rest, v, 1)
		rows.Add(q, one(), 1)
	}
	return quotient{rows.Used(q), rows.Used(rest)}
}

// inverseOf returns the inverse of a normal v of less than api.MaxWords words: of its two highest words by the schoolbook, then of about twice as many in each step.
func inverseOf(v api.Nat) api.Nat {
	n := len(v)
	first := min(n, 2)
	var inverse api.Nat
	for size := range sizes(first, n) {
		highest := v[n-size:]
		if size == first {
			inverse = school(complement(nil, 2*size), highest).q
		} else {
			inverse = refined(inverse, highest)
		}
	}
	return inverse
}

// refined returns the inverse of a normal v of n words from that of its h highest words, for an h less than n with 2 h > n.
//
// The given inverse less 4 is a guess: times B^(n - h), it is less than B^(2 n) / v, by at most 5 B^(n - h). So it comes from below. The step leaves the square of that difference by B^(2 n) / v, which is less than 1; what is cut off below makes it less than 3 more, which is counted up.
func refined(inverse, v api.Nat) api.Nat {
	n, h := len(v), len(inverse)-1
	guess, _ := nat.Sub(inverse, api.Nat{4})
	// What v times the guess lacks to B^(n + h) - 1 is less than B^(n + 1), so that the lower words of the product tell it. So it is with v q and B^(2 n) - 1.
	product, _ := fast.LowMul(v, guess, n+1)
	lacking := complement(product, n+1)
	more, _ := fast.Mul(guess, lacking[h:])
	q := make(api.Nat, n+1)
	copy(q[n-h:], guess)
	rows.Add(q, more[min(h, len(more)):], 1)
	product, _ = fast.LowMul(v, q, n+1)
	return countedUp(q, complement(product, n+1), v).q
}

// Inverse returns the inverse of a normal divisor.
func Inverse(v api.Nat) (api.Nat, api.Errno) {
	if e := rows.CheckSizes(v); e != api.OK {
		return nil, e
	}
	v = rows.Used(v)
	switch {
	case !IsNormal(v):
		return nil, api.ErrArg
	case len(v) == api.MaxWords: // an inverse has one word more than its divisor
		return nil, api.ErrSize
	}
	return inverseOf(v), api.OK
}

// byInverse is the way of Newton: pieces of the quotient are products with an inverse.
func byInverse(u, v api.Nat) quotient {
	var inverse api.Nat // of the words that divide each piece, which are always the same
	return inPieces(u, v, func(u, v api.Nat) quotient {
		if len(inverse) == 0 {
			inverse = inverseOf(v)
		}
		return byProducts(u, v, inverse)
	})
}

// byProducts returns quotient and remainder of u, less than v B^n, by a normal v of n words, at most half of api.MaxWords, with the inverse of v.
func byProducts(u, v, inverse api.Nat) quotient {
	n := len(v)
	// The words of u above n, times the inverse, by B^n: that is less than the quotient, by less than 4. The highest word of the inverse is 1. Without it, the product is no longer than a number may be.
	high := u[n:]
	product, _ := fast.Mul(high, inverse[:n:n])
	q := make(api.Nat, n)
	copy(q, high)
	rows.Add(q, product[min(n, len(product)):], 1)
	product, _ = fast.Mul(q, v)
	rest := append(api.Nat(nil), u...)
	rows.Take(rest, product, 1)
	return countedUp(q, rest, v)
}
