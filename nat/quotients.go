package nat

import (
	"reckoner/api"
	"reckoner/internal/rows"
	"reckoner/words"
)

// pair is the number high 2^64 + low.
type pair struct {
	high, low uint64
}

func (p pair) greater(q pair) bool {
	return p.high > q.high || p.high == q.high && p.low > q.low
}

// times returns a b.
func times(a, b uint64) pair {
	high, low := words.Wide(a, b)
	return pair{high, low}
}

// guess returns the quotient of u by v, or 1 more, as the three highest words of u and the two highest of v tell it (Knuth, The Art of Computer Programming, 4.3.1, algorithm D). v has at least two words, its highest bit is 1; u has one word more and is less than v 2^64.
func guess(u, v []uint64) uint64 {
	n := len(v)
	first, second := v[n-1], v[n-2]
	word, rest, e := words.Narrow(u[n], u[n-1], first)
	if e != api.OK {
		// u[n] is first. As that is at least 2^63, the quotient is the greatest word, or 1 less.
		return ^uint64(0)
	}
	// As far as first tells, word may be 2 too great: then what is left is too little for second.
	if times(word, second).greater(pair{rest, u[n-2]}) {
		word--
	}
	return word
}

// takeWord returns the quotient of u by v, which are as guess takes them, and leaves the remainder in the words of u below the highest one.
func takeWord(u, v []uint64) uint64 {
	n := len(v)
	word := guess(u, v)
	rest, borrow, _ := words.SubMul(u[:n], v, word)
	if borrow > u[n] {
		word--
		rest, _, _ = words.Add(rest, v, 0)
	}
	copy(u, rest)
	return word
}

// long returns quotient and remainder of x by a canonical y of at least two words, at most as many as x has.
func long(x, y api.Nat) (q, r api.Nat) {
	n := len(y)
	shift := 64*n - Len(y)
	v, _, _ := words.Left(y, shift)
	u, high, _ := words.Left(x, shift)
	u = append(u, high)
	q = make(api.Nat, len(u)-n)
	for j := len(q) - 1; j >= 0; j-- {
		q[j] = takeWord(u[j:j+n+1], v)
	}
	r, _, _ = words.Right(u[:n], shift)
	return rows.Used(q), rows.Used(r)
}

// DivMod returns quotient and remainder of x by y.
func DivMod(x, y api.Nat) (q, r api.Nat, e api.Errno) {
	if e := rows.CheckSizes(x, y); e != api.OK {
		return nil, nil, e
	}
	x, y = rows.Used(x), rows.Used(y)
	switch {
	case len(y) == 0:
		return nil, nil, api.ErrZero
	case len(x) < len(y):
		return nil, Trim(x), api.OK
	case len(y) == 1:
		q, rest, e := DivWord(x, y[0])
		return q, FromWord(rest), e
	}
	q, r = long(x, y)
	return q, r, api.OK
}

// DivWord returns quotient and remainder of x by w.
func DivWord(x api.Nat, w uint64) (api.Nat, uint64, api.Errno) {
	q, r, e := words.DivWord(x, w, 0)
	return rows.Used(q), r, e
}
