package modular

import (
	"reckoner/api"
	"reckoner/divide"
	"reckoner/internal/rows"
	"reckoner/nat"
)

// montgomery is an odd modulus, with what divides by R modulo it.
type montgomery struct {
	modulus
	factor uint64 // that makes n - 1 modulo B
}

// isOdd tells whether the modulus is odd.
func (m modulus) isOdd() bool {
	return nat.Bit(m.n, 0)
}

// newMontgomery returns an odd modulus with what is worked out for it.
func newMontgomery(m modulus) montgomery {
	factor, _ := divide.Odd(api.Nat{^uint64(0)}, m.n, 1)
	return montgomery{m, factor[0]}
}

// redc returns the residue x with x R = t modulo n, for a t less than n R in a row of m. It works in the row's memory.
func (m montgomery) redc(t api.Nat) api.Nat {
	w := len(m.n)
	// From the lowest word on, a multiple of n makes each word 0. Together these multiples are less than n R, so that the sum is less than 2 n R, and less than 2 n above those words.
	for i := range w {
		rows.Add(t[i:], m.n, t[i]*m.factor)
	}
	z := t[w:]
	if !m.has(z) {
		rows.Take(z, m.n, 1)
	}
	return rows.Used(z)
}

// enter returns x R modulo n.
func (m montgomery) enter(x api.Nat) api.Nat {
	z, _ := nat.Left(x, 64*len(m.n))
	return m.left(z)
}

// times returns the residue z with z R = x y modulo n, for residues x and y.
func (m montgomery) times(x, y api.Nat) api.Nat {
	return m.redc(m.rowOf(x, y))
}

// ladder returns x to the power of k, modulo n, with two products for each bit of k.
func (m montgomery) ladder(x, k api.Nat) api.Nat {
	// The powers of x with the exponent that the bits up to here are, and 1 more; both times R.
	power, next := m.enter(one()), m.enter(x)
	for bit := range digits(k, 1) {
		between := m.times(power, next)
		if bit == 0 {
			power, next = m.times(power, power), between
		} else {
			power, next = between, m.times(next, next)
		}
	}
	return m.redc(m.row(power))
}

// odd returns a modulus with what is worked out for it, or ErrArg if it is even. It takes what the checks of a call have found.
func odd(m modulus, e api.Errno) (montgomery, api.Errno) {
	switch {
	case e != api.OK:
		return montgomery{}, e
	case !m.isOdd():
		return montgomery{}, api.ErrArg
	}
	return newMontgomery(m), api.OK
}

// Redc returns the residue x with x R = t modulo an odd n.
func Redc(t, n api.Nat) (api.Nat, api.Errno) {
	m, e := odd(newModulus(n, t))
	if e != api.OK {
		return nil, e
	}
	t = rows.Used(t)
	if high := t[min(len(m.n), len(t)):]; !m.has(high) { // so that t is not less than n R
		return nil, api.ErrArg
	}
	return m.redc(m.row(t)), api.OK
}

// Enter returns x R modulo an odd n.
func Enter(x, n api.Nat) (api.Nat, api.Errno) {
	m, e := odd(ofResidues(n, x))
	if e != api.OK {
		return nil, e
	}
	return m.enter(x), api.OK
}

// Leave returns the residue whose Enter is x.
func Leave(x, n api.Nat) (api.Nat, api.Errno) {
	m, e := odd(ofResidues(n, x))
	if e != api.OK {
		return nil, e
	}
	return m.redc(m.row(x)), api.OK
}

// Montgomery returns the residue z with z R = x y modulo an odd n.
func Montgomery(x, y, n api.Nat) (api.Nat, api.Errno) {
	m, e := odd(ofResidues(n, x, y))
	if e != api.OK {
		return nil, e
	}
	return m.times(x, y), api.OK
}

// Ladder returns x to the power of k, modulo an odd n.
func Ladder(x, k, n api.Nat) (api.Nat, api.Errno) {
	m, e := odd(checkPower(x, k, n))
	if e != api.OK {
		return nil, e
	}
	return m.ladder(x, k), api.OK
}
