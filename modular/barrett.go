package modular

import (
	"reckoner/api"
	"reckoner/divide"
	"reckoner/internal/rows"
	"reckoner/nat"
)

// barrett is a modulus, with what tells a quotient by it as a product.
type barrett struct {
	modulus
	inverse api.Nat // floor(B^(2 w) / n)
}

// newBarrett returns a modulus with what is worked out for it.
func newBarrett(m modulus) barrett {
	power, _ := nat.Left(one(), 128*len(m.n))
	inverse, _, _ := divide.DivMod(power, m.n)
	return barrett{m, inverse}
}

// rest returns what x, of at most 2 w words in a row of m, leaves by n. It works in the row's memory.
func (m barrett) rest(x api.Nat) api.Nat {
	w := len(m.n)
	// What is cut off of x, of the inverse and of their product makes the quotient less, by at most 2.
	high := rows.Used(x[w-1:])
	q := make(api.Nat, len(high)+len(m.inverse))
	addProduct(q, m.inverse, high)
	for i, v := range rows.Used(q[min(w+1, len(q)):]) {
		rows.Take(x[i:], m.n, v)
	}
	for !m.has(x) {
		rows.Take(x, m.n, 1)
	}
	return rows.Used(x)
}

// times returns the residue of x y, for residues x and y.
func (m barrett) times(x, y api.Nat) api.Nat {
	return m.rest(m.rowOf(x, y))
}

// Barrett returns what x, of at most twice as many words as n, leaves by n.
func Barrett(x, n api.Nat) (api.Nat, api.Errno) {
	m, e := newModulus(n, x)
	if e != api.OK {
		return nil, e
	}
	if !hasWords(x, 2*len(m.n)) {
		return nil, api.ErrArg
	}
	return newBarrett(m).rest(m.row(x)), api.OK
}
