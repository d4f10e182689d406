package prime

import (
	"reckoner/api"
	"reckoner/internal/rows"
	"reckoner/modular"
	"reckoner/nat"
)

// What the chapter allows of long numbers and of Lucas' P and Q.
const (
	maxWords  = 32
	maxFactor = 1000000
)

// one returns the number 1.
func one() api.Nat {
	return api.Nat{1}
}

// hasWords tells whether x has at most maxWords words, without those that are 0.
func hasWords(x api.Nat) bool {
	return len(rows.Used(x)) <= maxWords
}

// checkNumber returns the error of a number n, as far as it is that of its size or of the size of another one.
func checkNumber(n api.Nat, others ...api.Nat) api.Errno {
	if e := rows.CheckSizes(n); e != api.OK {
		return e
	}
	if e := rows.CheckSizes(others...); e != api.OK {
		return e
	}
	if !hasWords(n) {
		return api.ErrArg
	}
	return api.OK
}

// residueOf returns what i leaves by n.
func residueOf(i int, n api.Nat) api.Nat {
	_, r, _ := nat.DivMod(nat.FromWord(uint64(max(i, -i))), n)
	if i < 0 {
		r, _ = modular.Sub(nil, r, n)
	}
	return r
}

// residue is a number less than a modulus, in an array, so that it can be compared.
type residue [maxWords]uint64

// fixed returns a number as a residue. It takes what a call without an error returned.
func fixed(x api.Nat, _ api.Errno) (r residue) {
	copy(r[:], x)
	return r
}

// power is a + b A, where A is a root of x x - P x + Q. As a power of A with the exponent k, it has two numbers of Lucas: b is U(k), and a is -Q U(k - 1).
type power struct {
	a, b residue
}

// ring calculates with such powers modulo n. For an odd n, all residues are as Montgomery's products take them.
type ring struct {
	n         api.Nat // canonical
	odd       bool
	one, p, q residue
}

// newRing returns the ring of P and Q modulo n.
func newRing(p, q int, n api.Nat) *ring {
	r := &ring{n: rows.Used(n), odd: nat.Bit(n, 0)}
	enter := func(i int) residue {
		x := residueOf(i, n)
		if r.odd {
			return fixed(modular.Enter(x, n))
		}
		return fixed(x, api.OK)
	}
	r.one, r.p, r.q = enter(1), enter(p), enter(q)
	return r
}

// number returns x as a number of as many words as the modulus has, in the memory of x.
func (r *ring) number(x *residue) api.Nat {
	return x[:len(r.n)]
}

// leave returns a residue of the ring as a number.
func (r *ring) leave(x residue) api.Nat {
	if !r.odd {
		return nat.Trim(r.number(&x))
	}
	z, _ := modular.Leave(r.number(&x), r.n)
	return z
}

// times returns x y.
func (r *ring) times(x, y residue) residue {
	if r.odd {
		return fixed(modular.Montgomery(r.number(&x), r.number(&y), r.n))
	}
	return fixed(modular.Mul(r.number(&x), r.number(&y), r.n))
}

// plus returns x + y.
func (r *ring) plus(x, y residue) residue {
	return fixed(modular.Add(r.number(&x), r.number(&y), r.n))
}

// minus returns x - y.
func (r *ring) minus(x, y residue) residue {
	return fixed(modular.Sub(r.number(&x), r.number(&y), r.n))
}

// negative returns -x.
func (r *ring) negative(x residue) residue {
	return r.minus(residue{}, x)
}

// withP returns a + P b.
func (r *ring) withP(x power) residue {
	return r.plus(x.a, r.times(r.p, x.b))
}

// next returns x A.
func (r *ring) next(x power) power {
	return power{r.negative(r.times(r.q, x.b)), r.withP(x)}
}

// conjugate returns x with the other root, P - A, in the place of A.
func (r *ring) conjugate(x power) power {
	return power{r.withP(x), r.negative(x.b)}
}

// negated returns -x.
func (r *ring) negated(x power) power {
	return power{r.negative(x.a), r.negative(x.b)}
}

// trace returns the sum of x and its conjugate. For the power of A with the exponent k, it is V(k).
func (r *ring) trace(x power) residue {
	return r.plus(x.a, r.withP(x))
}

// square returns x x.
func (r *ring) square(x power) power {
	rest := r.times(r.q, r.times(x.b, x.b))
	return power{r.minus(r.times(x.a, x.a), rest), r.times(x.b, r.trace(x))}
}

// power returns the power of A with the exponent k.
func (r *ring) power(k api.Nat) power {
	x := power{a: r.one}
	for i := nat.Len(k) - 1; i >= 0; i-- {
		x = r.square(x)
		if nat.Bit(k, i) {
			x = r.next(x)
		}
	}
	return x
}

// isFactor tells whether i may be Lucas' P or Q.
func isFactor(i int) bool {
	return -maxFactor <= i && i <= maxFactor
}

// Lucas returns U(k) and V(k) for P = p and Q = q, as what they leave by n.
func Lucas(p, q int, k, n api.Nat) (u, v api.Nat, e api.Errno) {
	if e := checkNumber(n, k); e != api.OK {
		return nil, nil, e
	}
	if nat.Len(n) == 0 || !hasWords(k) || !isFactor(p) || !isFactor(q) {
		return nil, nil, api.ErrArg
	}
	r := newRing(p, q, n)
	x := r.power(k)
	return r.leave(x.b), r.leave(r.trace(x)), api.OK
}
