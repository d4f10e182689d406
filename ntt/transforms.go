package ntt

import (
	"iter"
	"math/bits"
	"slices"

	"reckoner/api"
)

// roots returns w(n) for each length n, and for twice the greatest one, which turned products take.
func roots() map[int]residue {
	known := map[int]residue{}
	const most = 2 * maxLength
	w := generator.power((modulus - 1) / most)
	for n := most; n >= 1; n /= 2 {
		known[n] = w
		w = w.times(w)
	}
	return known
}

// Root returns w(n).
func Root(n int) (uint64, api.Errno) {
	if !isLength(n) {
		return 0, api.ErrArg
	}
	return uint64(roots()[n]), api.OK
}

// powers returns the first n powers of w, from 1 on.
func powers(w residue, n int) []residue {
	l := make([]residue, n)
	power := residue(1)
	for i := range l {
		l[i] = power
		power = power.times(w)
	}
	return l
}

// turned gives the elements of a list, whose number is a power of 2, in turned order: those at even indices before those at odd ones, and so on within both halves. At each place comes the element whose index is that of the place with its bits read from the other end.
func turned[W word](l []W) iter.Seq[W] {
	return func(yield func(W) bool) {
		unused := 64 - bits.TrailingZeros(uint(len(l))) // the bits of a word that no index has
		for i := range l {
			if !yield(l[bits.Reverse64(uint64(i))>>unused]) {
				return
			}
		}
	}
}

// transformed returns the transform of a list with a length.
func transformed[W word](l []W) []residue {
	z := make([]residue, 0, len(l))
	for w := range turned(l) {
		z = append(z, residue(w))
	}
	factors := powers(roots()[len(l)], len(l)/2)
	// In turned order the halves of a part are the elements at its even and at its odd indices, so that the transforms of both are sums of all that the part's transform is made of.
	var work func(part []residue)
	work = func(part []residue) {
		n := len(part)
		if n == 1 {
			return
		}
		half := n / 2
		even, odd := part[:half:half], part[half:n:n]
		work(even)
		work(odd)
		step := len(z) / n // the root of n elements is that of all, to this power
		for i, r := range even {
			s := odd[i].times(factors[i*step])
			even[i], odd[i] = r.plus(s), r.minus(s)
		}
	}
	work(z)
	return z
}

// back returns the list with this transform: a second transform gives n times the list, read backwards but for its first element.
func back[W word](l []W) []residue {
	z := transformed(l)
	slices.Reverse(z[1:])
	scaled := residue(len(l)).inverse().times
	for i, r := range z {
		z[i] = scaled(r)
	}
	return z
}

// checkList returns ErrArg if a list cannot be transformed.
func checkList(l []uint64) api.Errno {
	if !isLength(len(l)) {
		return api.ErrArg
	}
	return checkResidues(l)
}

// Transform returns the transform of a.
func Transform(a []uint64) ([]uint64, api.Errno) {
	if e := checkList(a); e != api.OK {
		return nil, e
	}
	return words(transformed(a)), api.OK
}

// Back returns the list whose transform is a.
func Back(a []uint64) ([]uint64, api.Errno) {
	if e := checkList(a); e != api.OK {
		return nil, e
	}
	return words(back(a)), api.OK
}
