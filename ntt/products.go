package ntt

import (
	"reckoner/api"
)

// maxLong is how many elements a factor of a long product may have, so that the product has at most a length.
const maxLong = maxLength / 2

// products returns the products of the elements of two lists, place by place.
func products[V, W word](a []V, b []W) []residue {
	z := make([]residue, len(a))
	for i, v := range a {
		z[i] = residue(v).times(residue(b[i]))
	}
	return z
}

// roundProduct returns the round product of two lists with the same length.
func roundProduct[W word](a, b []W) []residue {
	return back(products(transformed(a), transformed(b)))
}

// turnedProduct returns the turned product of two lists with the same length: a round product of elements with the weights w(2n)^i, as w(2n)^n is -1.
func turnedProduct[W word](a, b []W) []residue {
	n := len(a)
	root := roots()[2*n]
	weights := powers(root, n)
	z := roundProduct(products(a, weights), products(b, weights))
	return products(z, powers(root.inverse(), n))
}

// lengthFor returns the least length that is not less than n.
func lengthFor(n int) int {
	length := 1
	for length < n {
		length *= 2
	}
	return length
}

// longProduct returns the long product of two lists: a round product in which nothing comes round.
func longProduct[W word](a, b []W) []residue {
	if len(a) == 0 || len(b) == 0 {
		return nil
	}
	n := len(a) + len(b) - 1
	length := lengthFor(n)
	return roundProduct(padded(a, length), padded(b, length))[:n]
}

// longSquare returns the long product of a list and itself, with one transform less.
func longSquare[W word](l []W) []residue {
	if len(l) == 0 {
		return nil
	}
	n := 2*len(l) - 1
	t := transformed(padded(l, lengthFor(n)))
	return back(products(t, t))[:n]
}

// checkPair returns ErrArg if two lists do not have a product of their length.
func checkPair(a, b []uint64) api.Errno {
	if len(a) != len(b) || !isLength(len(a)) {
		return api.ErrArg
	}
	return checkResidues(a, b)
}

// Round returns the round product of two lists.
func Round(a, b []uint64) ([]uint64, api.Errno) {
	if e := checkPair(a, b); e != api.OK {
		return nil, e
	}
	return words(roundProduct(a, b)), api.OK
}

// Turned returns the turned product of two lists.
func Turned(a, b []uint64) ([]uint64, api.Errno) {
	if e := checkPair(a, b); e != api.OK {
		return nil, e
	}
	return words(turnedProduct(a, b)), api.OK
}

// Long returns the long product of two lists.
func Long(a, b []uint64) ([]uint64, api.Errno) {
	if max(len(a), len(b)) > maxLong {
		return nil, api.ErrArg
	}
	if e := checkResidues(a, b); e != api.OK {
		return nil, e
	}
	return words(longProduct(a, b)), api.OK
}
