package modular

import (
	"iter"

	"reckoner/api"
	"reckoner/nat"
)

// maxBits is how many bits of an exponent may be taken at a time.
const maxBits = 8

// digits gives the digits of k to the base 2^bits, the highest one first.
func digits(k api.Nat, bits int) iter.Seq[int] {
	return func(yield func(int) bool) {
		for i := (nat.Len(k)+bits-1)/bits - 1; i >= 0; i-- {
			digit := 0
			for j := bits - 1; j >= 0; j-- {
				digit *= 2
				if nat.Bit(k, i*bits+j) {
					digit++
				}
			}
			if !yield(digit) {
				return
			}
		}
	}
}

// raised returns x to the power of k, by so many bits of k at a time, where products are what times says and unit is the power with the exponent 0.
func raised(x, unit, k api.Nat, bits int, times func(x, y api.Nat) api.Nat) api.Nat {
	table := [1 << maxBits]api.Nat{unit, x} // of the powers of x, as far as they are known
	known := 2
	z := unit
	for digit := range digits(k, bits) {
		for ; known <= digit; known++ {
			table[known] = times(table[known-1], x)
		}
		for range bits {
			z = times(z, z)
		}
		if digit > 0 {
			z = times(z, table[digit])
		}
	}
	return z
}

// power returns the residue x to the power of k, by so many bits of k at a time.
func (m modulus) power(x, k api.Nat, bits int) api.Nat {
	if !m.isOdd() {
		return raised(x, m.unit(), k, bits, newBarrett(m).times)
	}
	o := newMontgomery(m)
	z := raised(o.enter(x), o.enter(one()), k, bits, o.times)
	return o.redc(o.row(z))
}

// bestBits returns how many bits at a time take the fewest products, for an exponent of so many bits in all.
func bestBits(length int) int {
	bits := 1
	// With b bits, there are a table of 2^b powers, and about length / b products with one of them.
	for bits < maxBits && length/bits-length/(bits+1) > 1<<bits {
		bits++
	}
	return bits
}

// checkPower returns the modulus n of a power, or the call's error.
func checkPower(x, k, n api.Nat) (modulus, api.Errno) {
	m, e := newModulus(n, x, k)
	if e == api.OK && (!m.has(x) || !hasWords(k, maxWords)) {
		e = api.ErrArg
	}
	return m, e
}

// Pow returns x to the power of k, modulo n.
func Pow(x, k, n api.Nat) (api.Nat, api.Errno) {
	m, e := checkPower(x, k, n)
	if e != api.OK {
		return nil, e
	}
	return m.power(x, k, bestBits(nat.Len(k))), api.OK
}

// Window returns x to the power of k, modulo n, by so many bits of k at a time.
func Window(x, k, n api.Nat, bits int) (api.Nat, api.Errno) {
	m, e := checkPower(x, k, n)
	if e != api.OK {
		return nil, e
	}
	if bits < 1 || bits > maxBits {
		return nil, api.ErrArg
	}
	return m.power(x, k, bits), api.OK
}
