package ntt

import (
	"math/bits"

	"reckoner/api"
)

const (
	modulus           = 1<<64 - 1<<32 + 1 // the prime P
	excess            = 1<<32 - 1         // what 2^64 leaves by P
	generator residue = 7
)

// residue is a word less than P.
type residue uint64

// plus returns r + s.
func (r residue) plus(s residue) residue {
	sum, carry := bits.Add64(uint64(r), uint64(s), 0)
	if carry == 1 || sum >= modulus {
		sum -= modulus
	}
	return residue(sum)
}

// minus returns r - s.
func (r residue) minus(s residue) residue {
	if r < s {
		r += modulus // what is lost beyond a word comes back with s
	}
	return r - s
}

// times returns r s.
func (r residue) times(s residue) residue {
	return residue(Reduce(bits.Mul64(uint64(r), uint64(s))))
}

// power returns r to the power of k.
func (r residue) power(k uint64) residue {
	z := residue(1)
	for ; k > 0; k >>= 1 {
		if k&1 == 1 {
			z = z.times(r)
		}
		r = r.times(r)
	}
	return z
}

// inverse returns the residue whose product with an r other than 0 is 1, by Fermat: r to the power of P - 1 is 1.
func (r residue) inverse() residue {
	return r.power(modulus - 2)
}

// Reduce returns high 2^64 + low, modulo P.
func Reduce(high, low uint64) uint64 {
	// 2^64 leaves the excess by P, and 2^96 leaves -1.
	z, borrow := bits.Sub64(low, high>>32, 0)
	z -= borrow * excess // no second borrow: after one, z is at least 2^64 - 2^32
	z, carry := bits.Add64(z, high<<32>>32*excess, 0)
	z += carry * excess // no second carry: the product is less than 2^64 - 2^32
	if z >= modulus {
		z -= modulus
	}
	return z
}

// joined returns what two words make that an operation takes as residues.
func joined(a uint64, operation func(r, s residue) residue, b uint64) (uint64, api.Errno) {
	if e := checkResidues([]uint64{a, b}); e != api.OK {
		return 0, e
	}
	return uint64(operation(residue(a), residue(b))), api.OK
}

// Add returns a + b modulo P.
func Add(a, b uint64) (uint64, api.Errno) {
	return joined(a, residue.plus, b)
}

// Sub returns a - b modulo P.
func Sub(a, b uint64) (uint64, api.Errno) {
	return joined(a, residue.minus, b)
}

// Times returns a b modulo P.
func Times(a, b uint64) (uint64, api.Errno) {
	return joined(a, residue.times, b)
}

// Pow returns a to the power of k modulo P, for any k.
func Pow(a, k uint64) (uint64, api.Errno) {
	if e := checkResidues([]uint64{a}); e != api.OK {
		return 0, e
	}
	return uint64(residue(a).power(k)), api.OK
}

// Inverse returns the residue whose product with a is 1.
func Inverse(a uint64) (uint64, api.Errno) {
	if e := checkResidues([]uint64{a}); e != api.OK {
		return 0, e
	}
	if a == 0 {
		return 0, api.ErrZero
	}
	return uint64(residue(a).inverse()), api.OK
}
