package gcd

import (
	"iter"
	"math/bits"

	"reckoner/api"
	"reckoner/divide"
	"reckoner/internal/rows"
	"reckoner/nat"
)

// block is a matrix of words: the product of the matrices q 1, 1 0 of some quotients. Where these quotients leave c and d of a and b, it tells a = ac c + ad d and b = bc c + bd d.
type block struct {
	ac, ad, bc, bd uint64
}

// still is the block of no quotients.
var still = block{ac: 1, bd: 1}

// then returns the block of the quotients of m, and q.
func (m block) then(q uint64) block {
	return block{q*m.ac + m.ad, m.ac, q*m.bc + m.bd, m.bc}
}

// turned returns the block that tells b first, and then a.
func (m block) turned() block {
	return block{m.bc, m.bd, m.ac, m.ad}
}

// certain returns the first quotients of all numbers a and b whose highest words are x and y, x not less than y, and the block of these quotients, as long as the word that is divided by is greater than end. With exact, a and b are the words themselves. The quotients are appended to a list.
//
// Without it, a is from x 2^s to less than (x + 1) 2^s, for some s, and b is so for y. In units of 2^s, a remainder then differs from its word by less than ac of the block that leaves it, and the remainder before by less than ad: bc and bd are not greater, as b is not.
func certain(list []uint64, x, y, end uint64, exact bool) ([]uint64, block) {
	m := still
taking:
	for y > end {
		q := x / y
		next := m.then(q) // No word of it is too large for its place, as ac x + ad y remains the first x.
		x, y = y, x-q*y
		switch {
		case exact:
		case y < next.ac: // The remainder may be less than 0: q may be too large.
			break taking
		case x-y < next.ac+next.ad: // It may be greater than the divisor: q may be too little.
			break taking
		}
		list = append(list, q)
		m = next
	}
	return list, m
}

// difference is v x - w y, that comes word by word from the lowest one on, with what is carried along.
type difference struct {
	v, w                uint64
	above, below, taken uint64
}

// next returns the next word, from those of x and y.
func (d *difference) next(x, y uint64) uint64 {
	high, low := bits.Mul64(x, d.v)
	low, carry := bits.Add64(low, d.above, 0)
	d.above = high + carry
	high, less := bits.Mul64(y, d.w)
	less, carry = bits.Add64(less, d.below, 0)
	d.below = high + carry
	low, d.taken = bits.Sub64(low, less, d.taken)
	return low
}

// walk goes from two numbers along their remainders: a and b become b and what a leaves by b, and so on.
type walk struct {
	a, b  api.Nat // rows of the same length, the walk's own
	least int     // The walk ends where b has no more bits than this.
	room  [92]uint64
}

// newWalk returns a walk that begins with a and b.
func newWalk(a, b api.Nat, least int) *walk {
	n := max(len(rows.Used(a)), len(rows.Used(b)))
	w := walk{a: make(api.Nat, n), b: make(api.Nat, n), least: least}
	copy(w.a, a)
	copy(w.b, b)
	return &w
}

// stride is some quotients that are taken at once: words, with their block, or a single one of any length.
type stride struct {
	words  []uint64 // in memory that is used again
	block  block    // still, if it is a single one
	single api.Nat
}

// count returns how many quotients there are.
func (s stride) count() int {
	return max(1, len(s.words))
}

// numbers returns the quotients.
func (s stride) numbers() []api.Nat {
	if s.block == still {
		return []api.Nat{s.single}
	}
	var l []api.Nat
	for _, q := range s.words {
		l = append(l, nat.FromWord(q))
	}
	return l
}

// leap takes the quotients that are certain by the highest words of both numbers, if there are any.
func (w *walk) leap() (words []uint64, m block) {
	s := max(0, nat.Len(w.a)-64)
	// All remainders of a leap but the last one have more than s bits.
	if s > 0 && s < w.least || nat.Cmp(w.a, w.b) < 0 {
		return nil, still
	}
	var end uint64
	if s == 0 {
		end = 1<<w.least - 1
	}
	words, m = certain(w.room[:0], wordAt(w.a, s), wordAt(w.b, s), end, s == 0)
	w.leave(m, len(words)%2 == 1)
	return words, m
}

// leave leaves of a and b what the quotients of m leave, of which there is an odd number or not.
func (w *walk) leave(m block, odd bool) {
	if odd { // so that the determinant is 1
		w.a, w.b, m = w.b, w.a, m.turned()
	}
	c, d := difference{v: m.bd, w: m.ad}, difference{v: m.ac, w: m.bc}
	for i, a := range w.a {
		b := w.b[i]
		w.a[i] = c.next(a, b)
		w.b[i] = d.next(b, a)
	}
	n := len(rows.Used(w.a))
	w.a, w.b = w.a[:n], w.b[:n]
}

// step takes one quotient.
func (w *walk) step() api.Nat {
	q, r, _ := divide.DivMod(w.a, w.b)
	b := rows.Used(w.b)
	w.a, w.b = b, append(r, make(api.Nat, len(b)-len(r))...)
	return q
}

// next takes the next quotients, if there are any.
func (w *walk) next() (s stride, more bool) {
	if nat.Len(w.b) <= w.least {
		return stride{}, false
	}
	s.words, s.block = w.leap()
	if s.block == still {
		s.single = w.step()
	}
	return s, true
}

// strides gives the quotients up to the walk's end.
func (w *walk) strides() iter.Seq[stride] {
	return func(yield func(stride) bool) {
		for s, more := w.next(); more && yield(s); {
			s, more = w.next()
		}
	}
}
