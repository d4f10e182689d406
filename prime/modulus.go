package prime

import "math/bits"

// modulus is a word greater than 1 by which words are taken. Its residues are the words less than it.
type modulus uint64

// times returns what the product of x and all the others leaves, for residues.
func (n modulus) times(x uint64, others ...uint64) uint64 {
	for _, y := range others {
		high, low := bits.Mul64(x, y)
		_, x = bits.Div64(high, low, uint64(n))
	}
	return x
}

// square returns what x x leaves, for a residue x.
func (n modulus) square(x uint64) uint64 {
	return n.times(x, x)
}

// power returns what x to the power of k leaves, for a residue x.
func (n modulus) power(x, k uint64) uint64 {
	z := uint64(1)
	for ; k > 0; k >>= 1 {
		if k&1 == 1 {
			z = n.times(z, x)
		}
		x = n.square(x)
	}
	return z
}

// sum returns what x + y leaves, for residues.
func (n modulus) sum(x, y uint64) uint64 {
	z, carry := bits.Add64(x, y, 0)
	if carry > 0 || z >= uint64(n) {
		z -= uint64(n)
	}
	return z
}

// oddPart returns d and s with n - 1 = d 2^s, d odd.
func (n modulus) oddPart() (d uint64, s int) {
	last := uint64(n) - 1
	s = bits.TrailingZeros64(last)
	return last >> s, s
}

// passes tells whether an odd n passes for the residue a, which is not 0.
func (n modulus) passes(a uint64) bool {
	d, s := n.oddPart()
	x := n.power(a, d)
	isLast := func(x uint64) bool { return x == uint64(n)-1 }
	return x == 1 || comes(x, s, n.square, isLast)
}

// comes tells whether one of the first s numbers of x, its square, the square of that, and so on, is what is looked for.
func comes[T any](x T, s int, square func(x T) T, isIt func(x T) bool) bool {
	for range s {
		if isIt(x) {
			return true
		}
		x = square(x)
	}
	return false
}
