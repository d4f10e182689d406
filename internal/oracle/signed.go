package oracle

// Signed is an integer: the value of Size, negated if Neg.
type Signed struct {
	Neg  bool
	Size Number
}

// Integer returns the integer with these words as its size.
func Integer(neg bool, words ...uint64) Signed {
	return Signed{neg, Value(words...)}
}

// Small returns the integer i.
func Small(i int) Signed {
	return Integer(i < 0, uint64(max(i, -i)))
}

// Plus returns n + m.
func (n Signed) Plus(m Signed) Signed {
	if n.Neg == m.Neg {
		return Signed{n.Neg, n.Size.Plus(m.Size)}
	}
	if n.Size.Compare(m.Size) < 0 {
		n, m = m, n
	}
	return Signed{n.Neg, n.Size.Minus(m.Size)}
}

// Times returns n m.
func (n Signed) Times(m Signed) Signed {
	return Signed{n.Neg != m.Neg, n.Size.Times(m.Size)}
}

// Canonical returns whether n is less than 0, and the words of its size, the last one not 0.
func (n Signed) Canonical() (neg bool, words []uint64) {
	words = n.Size.Words()
	return n.Neg && len(words) > 0, words
}
