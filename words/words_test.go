package words_test

import (
	"math"
	"slices"
	"testing"

	"reckoner/api"
	"reckoner/internal/oracle"
	"reckoner/words"
)

const (
	top  = oracle.Top
	half = oracle.Half
)

var (
	value = oracle.Value
	power = oracle.Power
	edges = oracle.Edges
	short = oracle.Short
)

// rowsOf returns rows of n words: all rows of edges if they are short; otherwise rows of one edge, rows that begin or end with another word, and mixed ones.
func rowsOf(n int) [][]uint64 {
	if n == 0 {
		return [][]uint64{nil, {}}
	}
	var rows [][]uint64
	if n <= 2 {
		rows = [][]uint64{nil}
		for range n {
			var longer [][]uint64
			for _, r := range rows {
				for _, w := range edges() {
					longer = append(longer, append(slices.Clone(r), w))
				}
			}
			rows = longer
		}
	} else {
		for _, w := range []uint64{0, half, top} {
			for _, v := range []uint64{0, 1, top} {
				r := slices.Repeat([]uint64{w}, n)
				s := slices.Clone(r)
				r[0], s[n-1] = v, v
				rows = append(rows, r, s)
			}
		}
	}
	m := oracle.Mixer(n)
	return append(rows, m.Row(n), m.Row(n), m.Row(n))
}

// lengths are the lengths of the rows that are tried with one another.
func lengths() []int {
	return []int{0, 1, 2, 3, 4, 9}
}

// eachPair gives pairs of rows of the same length, and one of the greatest length.
func eachPair(f func(x, y []uint64)) {
	for _, n := range lengths() {
		rows := rowsOf(n)
		for _, x := range rows {
			for _, y := range rows {
				f(x, y)
			}
		}
	}
	f(slices.Repeat([]uint64{top}, api.MaxWords), slices.Repeat([]uint64{top}, api.MaxWords))
}

// eachRow gives rows of all the lengths, and some of the greatest length.
func eachRow(f func(x []uint64)) {
	for _, n := range lengths() {
		for _, x := range rowsOf(n) {
			f(x)
		}
	}
	for _, w := range []uint64{0, half, top} {
		f(slices.Repeat([]uint64{w}, api.MaxWords))
	}
}

// someWords returns the edges and a few other words.
func someWords() []uint64 {
	m := oracle.Mixer(99)
	return append(append(edges(), 2, 10, half+1, 1<<32, 1<<32-1), m.Row(4)...)
}

// P1.1: x + y + carry = z + c B^n.
func TestAdd(t *testing.T) {
	eachPair(func(x, y []uint64) {
		for carry := range uint64(2) {
			z, c, e := words.Add(x, y, carry)
			want := value(x...).Plus(value(y...)).Plus(value(carry))
			got := value(z...).Plus(value(c).Above(len(x)))
			if e != api.OK || len(z) != len(x) || c > 1 || got.Compare(want) != 0 {
				t.Errorf("Add(%x, %x, %d) = %x, %d, %d", short(x), short(y), carry, short(z), c, e)
			}
		}
	})
}

// P1.1: x - y - borrow = z - c B^n.
func TestSub(t *testing.T) {
	eachPair(func(x, y []uint64) {
		for borrow := range uint64(2) {
			z, c, e := words.Sub(x, y, borrow)
			want := value(z...).Plus(value(y...)).Plus(value(borrow))
			got := value(x...).Plus(value(c).Above(len(x)))
			if e != api.OK || len(z) != len(x) || c > 1 || got.Compare(want) != 0 {
				t.Errorf("Sub(%x, %x, %d) = %x, %d, %d", short(x), short(y), borrow, short(z), c, e)
			}
		}
	})
}

// P1.1: B^n - x, modulo B^n, and whether x is not 0; P1.7: that is Sub from 0.
func TestNegate(t *testing.T) {
	eachRow(func(x []uint64) {
		z, some, e := words.Negate(x)
		want := value()
		if value(x...).Compare(want) != 0 {
			want = value(1).Above(len(x))
		}
		if got := value(z...).Plus(value(x...)); e != api.OK || len(z) != len(x) || some != (want.Compare(value()) > 0) || got.Compare(want) != 0 {
			t.Errorf("Negate(%x) = %x, %v, %d", short(x), short(z), some, e)
		}
		s, borrow, _ := words.Sub(make([]uint64, len(x)), x, 0)
		if !slices.Equal(s, z) || some != (borrow == 1) {
			t.Errorf("Negate(%x) = %x, %v, but Sub from 0 is %x, %d", short(x), short(z), some, short(s), borrow)
		}
	})
}

// P1.2: x w + add = z + h B^n.
func TestMulWord(t *testing.T) {
	eachRow(func(x []uint64) {
		for _, w := range someWords() {
			product := value(x...).Times(value(w))
			for _, add := range edges() {
				z, h, e := words.MulWord(x, w, add)
				want := product.Plus(value(add))
				got := value(z...).Plus(value(h).Above(len(x)))
				if e != api.OK || len(z) != len(x) || got.Compare(want) != 0 {
					t.Errorf("MulWord(%x, %x, %x) = %x, %x, %d", short(x), w, add, short(z), h, e)
				}
			}
		}
	})
}

// P1.2: z + x w = a + h B^n, and z - x w = a - h B^n; P1.7: SubMul takes away what AddMul adds.
func TestAddMulAndSubMul(t *testing.T) {
	eachPair(func(z, x []uint64) {
		for _, w := range edges() {
			product := value(x...).Times(value(w))
			a, h, e := words.AddMul(z, x, w)
			want := value(z...).Plus(product)
			got := value(a...).Plus(value(h).Above(len(x)))
			if e != api.OK || len(a) != len(z) || got.Compare(want) != 0 {
				t.Errorf("AddMul(%x, %x, %x) = %x, %x, %d", short(z), short(x), w, short(a), h, e)
			}
			back, g, e := words.SubMul(a, x, w)
			if e != api.OK || g != h || !slices.Equal(back, z) {
				t.Errorf("SubMul(AddMul(%x, %x, %x)) = %x, %x, %d", short(z), short(x), w, short(back), g, e)
			}
			a, h, e = words.SubMul(z, x, w)
			want = value(a...).Plus(product)
			got = value(z...).Plus(value(h).Above(len(x)))
			if e != api.OK || len(a) != len(z) || got.Compare(want) != 0 {
				t.Errorf("SubMul(%x, %x, %x) = %x, %x, %d", short(z), short(x), w, short(a), h, e)
			}
		}
	})
}

// P1.2: a b = high B + low.
func TestWide(t *testing.T) {
	for _, a := range someWords() {
		for _, b := range someWords() {
			high, low := words.Wide(a, b)
			if value(low, high).Compare(value(a).Times(value(b))) != 0 {
				t.Errorf("Wide(%x, %x) = %x, %x", a, b, high, low)
			}
		}
	}
}

// P1.3: high B^n + x = q w + r, r < w.
func TestDivWord(t *testing.T) {
	eachRow(func(x []uint64) {
		for _, w := range someWords() {
			if w == 0 {
				continue
			}
			for _, high := range []uint64{0, w / 2, w - 1} {
				q, r, e := words.DivWord(x, w, high)
				got := value(q...).Times(value(w)).Plus(value(r))
				want := value(x...).Plus(value(high).Above(len(x)))
				if e != api.OK || len(q) != len(x) || r >= w || got.Compare(want) != 0 {
					t.Errorf("DivWord(%x, %x, %x) = %x, %x, %d", short(x), w, high, short(q), r, e)
				}
			}
		}
	})
}

// P1.3: high B + low = q d + r, r < d; P1.6: ByReciprocal gives the same.
func TestNarrowAndByReciprocal(t *testing.T) {
	m := oracle.Mixer(7)
	divisors := append(someWords(), half+2, top/3, top/5*4, m.Next()|half, m.Next()|half)
	for _, d := range divisors {
		if d == 0 {
			continue
		}
		for _, high := range []uint64{0, 1, d / 3, d / 2, d - d/3, d - 2, d - 1, m.Next() % d} {
			if high >= d {
				continue
			}
			for _, low := range someWords() {
				q, r, e := words.Narrow(high, low, d)
				if e != api.OK || r >= d || value(q).Times(value(d)).Plus(value(r)).Compare(value(low, high)) != 0 {
					t.Errorf("Narrow(%x, %x, %x) = %x, %x, %d", high, low, d, q, r, e)
				}
				v, e := words.Reciprocal(d)
				if e != api.OK {
					continue
				}
				if q1, r1, e := words.ByReciprocal(high, low, d, v); e != api.OK || q1 != q || r1 != r {
					t.Errorf("ByReciprocal(%x, %x, %x, %x) = %x, %x, %d, want %x, %x", high, low, d, v, q1, r1, e, q, r)
				}
			}
		}
	}
}

// P1.6 again, where the guess of ByReciprocal is 1 too great or too small, which is seldom.
func TestByReciprocalCorrects(t *testing.T) {
	m := oracle.Mixer(8)
	for i := range 20000 {
		d := m.Next() | half
		if i%2 == 1 { // near the least divisor the guess is too small sometimes
			d = half + m.Next()%16
		}
		high, low := m.Next()%d, m.Next()
		if i%4 >= 2 {
			high, low = d-1-high%8, top-low%8
		}
		q, r, _ := words.Narrow(high, low, d)
		v, _ := words.Reciprocal(d)
		if q1, r1, e := words.ByReciprocal(high, low, d, v); e != api.OK || q1 != q || r1 != r {
			t.Fatalf("ByReciprocal(%x, %x, %x, %x) = %x, %x, %d, want %x, %x", high, low, d, v, q1, r1, e, q, r)
		}
	}
}

// P1.4: x 2^s = z + c B^n; P1.7: Right gives back the row, less what was shifted out.
func TestLeft(t *testing.T) {
	eachRow(func(x []uint64) {
		for s := range 64 {
			if len(x) > 9 && s%21 != 0 {
				continue
			}
			z, c, e := words.Left(x, s)
			got := value(z...).Plus(value(c).Above(len(x)))
			if e != api.OK || len(z) != len(x) || got.Compare(value(x...).Times(power(s))) != 0 {
				t.Errorf("Left(%x, %d) = %x, %x, %d", short(x), s, short(z), c, e)
			}
			if len(x) == 0 {
				continue
			}
			back, out, e := words.Right(z, s)
			whole := value(back...).Plus(value(c).Times(power(64*len(x) - s)))
			if e != api.OK || out != 0 || whole.Compare(value(x...)) != 0 {
				t.Errorf("Right(Left(%x, %d)) = %x, %x, %d", short(x), s, short(back), out, e)
			}
		}
	})
}

// P1.4: x B = z 2^s B + c 2^s.
func TestRight(t *testing.T) {
	eachRow(func(x []uint64) {
		for s := range 64 {
			if len(x) > 9 && s%21 != 0 {
				continue
			}
			z, c, e := words.Right(x, s)
			got := value(z...).Above(1).Plus(value(c)).Times(power(s))
			if e != api.OK || len(z) != len(x) || got.Compare(value(x...).Above(1)) != 0 {
				t.Errorf("Right(%x, %d) = %x, %x, %d", short(x), s, short(z), c, e)
			}
		}
	})
}

// P1.5: rows by their values.
func TestCmp(t *testing.T) {
	eachPair(func(x, y []uint64) {
		c, e := words.Cmp(x, y)
		if want := value(x...).Compare(value(y...)); e != api.OK || c != want {
			t.Errorf("Cmp(%x, %x) = %d, %d, want %d", short(x), short(y), c, e, want)
		}
	})
}

// P1.5: the bits of words with one, two or many bits 1.
func TestCount(t *testing.T) {
	list := someWords()
	m := oracle.Mixer(5)
	for i := range 64 {
		for j := range 64 {
			list = append(list, 1<<i|1<<j, top<<i>>j, m.Next()<<i>>j)
		}
	}
	for _, w := range list {
		lead, trail, ones := 64, 64, 0
		for i := range 64 {
			if w>>i&1 == 1 {
				lead = 63 - i
				trail = min(trail, i)
				ones++
			}
		}
		if a, b, c := words.Count(w); a != lead || b != trail || c != ones {
			t.Errorf("Count(%x) = %d, %d, %d, want %d, %d, %d", w, a, b, c, lead, trail, ones)
		}
	}
}

// P1.6: w v = 1 modulo B, for odd words only.
func TestInverse(t *testing.T) {
	m := oracle.Mixer(3)
	list := append(someWords(), m.Row(50)...)
	for w := range uint64(256) {
		list = append(list, w, top-w)
	}
	for _, w := range list {
		v, e := words.Inverse(w)
		if w%2 == 0 {
			if v != 0 || e != api.ErrArg {
				t.Errorf("Inverse(%x) = %x, %d, want ErrArg", w, v, e)
			}
			continue
		}
		product := append(value(w).Times(value(v)), make(oracle.Number, 8)...)
		if e != api.OK || product[:8].Compare(value(1)) != 0 {
			t.Errorf("Inverse(%x) = %x, %d", w, v, e)
		}
	}
}

// P1.6: floor((B^2 - 1) / d) - B, for words from 2^63 on.
func TestReciprocal(t *testing.T) {
	m := oracle.Mixer(4)
	list := append(someWords(), m.Row(100)...)
	for i := range uint64(64) {
		list = append(list, half+i, half+1<<i>>1, top-i, top-1<<i>>1, half-1-i)
	}
	for _, d := range list {
		v, e := words.Reciprocal(d)
		if d < half {
			if v != 0 || e != api.ErrArg {
				t.Errorf("Reciprocal(%x) = %x, %d, want ErrArg", d, v, e)
			}
			continue
		}
		product := value(v, 1).Times(value(d))
		greatest := value(top, top)
		if e != api.OK || product.Compare(greatest) > 0 || product.Plus(value(d)).Compare(greatest) <= 0 {
			t.Errorf("Reciprocal(%x) = %x, %d", d, v, e)
		}
	}
}

// P1.7: with the carry as borrow, Sub takes away what Add adds.
func TestSubOfAdd(t *testing.T) {
	eachPair(func(x, y []uint64) {
		for carry := range uint64(2) {
			z, c, _ := words.Add(x, y, carry)
			back, b, e := words.Sub(z, y, carry)
			if e != api.OK || b != c || !slices.Equal(back, x) {
				t.Errorf("Sub(Add(%x, %x, %d)) = %x, %d, %d", short(x), short(y), carry, short(back), b, e)
			}
		}
	})
}

// P1.7: DivWord takes apart what MulWord makes.
func TestDivWordOfMulWord(t *testing.T) {
	eachRow(func(x []uint64) {
		for _, w := range someWords() {
			if w == 0 {
				continue
			}
			for _, add := range []uint64{0, w / 2, w - 1} {
				z, h, _ := words.MulWord(x, w, add)
				q, r, e := words.DivWord(z, w, h)
				if e != api.OK || r != add || !slices.Equal(q, x) {
					t.Errorf("DivWord(MulWord(%x, %x, %x)) = %x, %x, %d", short(x), w, add, short(q), r, e)
				}
			}
		}
	})
}

// The chapter's examples.
func TestExamples(t *testing.T) {
	if z, c, e := words.Add([]uint64{top}, []uint64{1}, 0); z[0] != 0 || c != 1 || e != api.OK {
		t.Error("Add:", z, c, e)
	}
	if z, c, e := words.Sub([]uint64{0}, []uint64{1}, 0); z[0] != top || c != 1 || e != api.OK {
		t.Error("Sub:", z, c, e)
	}
	if z, h, e := words.MulWord([]uint64{top}, top, top); z[0] != 0 || h != top || e != api.OK {
		t.Error("MulWord:", z, h, e)
	}
	if q, r, e := words.DivWord([]uint64{0}, 3, 1); q[0] != 0x5555555555555555 || r != 1 || e != api.OK {
		t.Error("DivWord:", q, r, e)
	}
	if z, c, e := words.Right([]uint64{3}, 1); z[0] != 1 || c != half || e != api.OK {
		t.Error("Right:", z, c, e)
	}
	if v, e := words.Inverse(3); v != 0xaaaaaaaaaaaaaaab || e != api.OK {
		t.Error("Inverse:", v, e)
	}
	if v, e := words.Reciprocal(half); v != top || e != api.OK {
		t.Error("Reciprocal:", v, e)
	}
}

// P1.3, P1.6: the errors of the calls that take no rows.
func TestErrorsOfWords(t *testing.T) {
	for _, c := range []struct {
		high, low, d uint64
		want         api.Errno
	}{
		{0, 0, 0, api.ErrZero},
		{top, top, 0, api.ErrZero},
		{1, 0, 1, api.ErrArg},
		{3, 0, 3, api.ErrArg},
		{4, 5, 3, api.ErrArg},
		{top, 0, top, api.ErrArg},
	} {
		if q, r, e := words.Narrow(c.high, c.low, c.d); q != 0 || r != 0 || e != c.want {
			t.Errorf("Narrow(%x, %x, %x) = %x, %x, %d, want error %d", c.high, c.low, c.d, q, r, e, c.want)
		}
	}
	for _, c := range [][3]uint64{{0, 0, 0}, {1, 0, 0}, {0, 1, 1}, {0, half - 1, 0}, {0, half - 1, 1}, {0, half - 1, top}, {half, half, top}, {top, half, top}, {top, top, 1}} {
		if q, r, e := words.ByReciprocal(c[0], 5, c[1], c[2]); q != 0 || r != 0 || e != api.ErrArg {
			t.Errorf("ByReciprocal(%x, 5, %x, %x) = %x, %x, %d, want ErrArg", c[0], c[1], c[2], q, r, e)
		}
	}
}

// P1.6: no word but the reciprocal itself is taken as one.
func TestWrongReciprocals(t *testing.T) {
	m := oracle.Mixer(6)
	for _, d := range []uint64{half, half + 1, half + half/2, top - 1, top, m.Next() | half, m.Next() | half} {
		right, _ := words.Reciprocal(d)
		for _, v := range append(m.Row(20), right-2, right-1, right+1, right+2, right^half, ^right, 0, 1, d, half, top) {
			if v == right {
				continue
			}
			if q, r, e := words.ByReciprocal(0, 7, d, v); q != 0 || r != 0 || e != api.ErrArg {
				t.Errorf("ByReciprocal(0, 7, %x, %x) = %x, %x, %d, want ErrArg", d, v, q, r, e)
			}
		}
	}
}

// call is a call with one or two rows, its other arguments chosen; want is its error for rows that are right.
type call struct {
	name string
	rows int
	want api.Errno
	do   func(x, y []uint64) ([]uint64, uint64, api.Errno)
}

// goodCalls are calls of all functions that take rows.
func goodCalls() []call {
	type row = []uint64
	return []call{
		{"Add", 2, api.OK, func(x, y row) (row, uint64, api.Errno) { return words.Add(x, y, 1) }},
		{"Sub", 2, api.OK, func(x, y row) (row, uint64, api.Errno) { return words.Sub(x, y, 1) }},
		{"MulWord", 1, api.OK, func(x, _ row) (row, uint64, api.Errno) { return words.MulWord(x, top, 9) }},
		{"AddMul", 2, api.OK, func(x, y row) (row, uint64, api.Errno) { return words.AddMul(x, y, top) }},
		{"AddMul by 0", 2, api.OK, func(x, y row) (row, uint64, api.Errno) { return words.AddMul(x, y, 0) }},
		{"SubMul", 2, api.OK, func(x, y row) (row, uint64, api.Errno) { return words.SubMul(x, y, top) }},
		{"SubMul by 0", 2, api.OK, func(x, y row) (row, uint64, api.Errno) { return words.SubMul(x, y, 0) }},
		{"DivWord", 1, api.OK, func(x, _ row) (row, uint64, api.Errno) { return words.DivWord(x, 7, 6) }},
		{"DivWord by 1", 1, api.OK, func(x, _ row) (row, uint64, api.Errno) { return words.DivWord(x, 1, 0) }},
		{"Left", 1, api.OK, func(x, _ row) (row, uint64, api.Errno) { return words.Left(x, 3) }},
		{"Left by 0", 1, api.OK, func(x, _ row) (row, uint64, api.Errno) { return words.Left(x, 0) }},
		{"Right", 1, api.OK, func(x, _ row) (row, uint64, api.Errno) { return words.Right(x, 3) }},
		{"Right by 0", 1, api.OK, func(x, _ row) (row, uint64, api.Errno) { return words.Right(x, 0) }},
		{"Cmp", 2, api.OK, func(x, y row) (row, uint64, api.Errno) {
			c, e := words.Cmp(x, y)
			return nil, uint64(c), e
		}},
		{"Negate", 1, api.OK, func(x, _ row) (row, uint64, api.Errno) {
			z, some, e := words.Negate(x)
			if some {
				return z, 1, e
			}
			return z, 0, e
		}},
	}
}

// badCalls are calls with an argument besides the rows that is not right.
func badCalls() []call {
	type row = []uint64
	var list []call
	for _, carry := range []uint64{2, 3, half, top} {
		list = append(list,
			call{"Add", 2, api.ErrArg, func(x, y row) (row, uint64, api.Errno) { return words.Add(x, y, carry) }},
			call{"Sub", 2, api.ErrArg, func(x, y row) (row, uint64, api.Errno) { return words.Sub(x, y, carry) }})
	}
	for _, s := range []int{-1, 64, 65, 128, -64, math.MinInt, math.MaxInt} {
		list = append(list,
			call{"Left", 1, api.ErrArg, func(x, _ row) (row, uint64, api.Errno) { return words.Left(x, s) }},
			call{"Right", 1, api.ErrArg, func(x, _ row) (row, uint64, api.Errno) { return words.Right(x, s) }})
	}
	for _, high := range []uint64{0, 1, top} {
		list = append(list, call{"DivWord by 0", 1, api.ErrZero, func(x, _ row) (row, uint64, api.Errno) { return words.DivWord(x, 0, high) }})
	}
	for _, w := range []uint64{1, 7, half, top - 1, top} {
		for _, high := range []uint64{w, top} {
			list = append(list, call{"DivWord, high too great", 1, api.ErrArg, func(x, _ row) (row, uint64, api.Errno) { return words.DivWord(x, w, high) }})
		}
	}
	return list
}

// fails checks that a call returns an error and zero values.
func fails(t *testing.T, c call, x, y []uint64, want api.Errno) {
	t.Helper()
	if z, w, e := c.do(x, y); len(z) != 0 || w != 0 || e != want {
		t.Errorf("%s with %d and %d words: %x, %x, %d, want error %d", c.name, len(x), len(y), short(z), w, e, want)
	}
}

// Arguments out of range, with rows of all lengths.
func TestArgumentsOutOfRange(t *testing.T) {
	for _, n := range []int{0, 1, 2, 5, api.MaxWords} {
		x, y := slices.Repeat([]uint64{top}, n), slices.Repeat([]uint64{5}, n)
		for _, c := range badCalls() {
			fails(t, c, x, y, c.want)
		}
	}
}

// Rows that are too long come before all other errors, of whichever row, also if what is too long is 0.
func TestRowsTooLong(t *testing.T) {
	for _, n := range []int{api.MaxWords + 1, api.MaxWords + 500} {
		long := make([]uint64, n)
		for _, c := range append(goodCalls(), badCalls()...) {
			fails(t, c, long, long, api.ErrSize)
			if c.rows == 1 {
				fails(t, c, long, nil, api.ErrSize)
				continue
			}
			for _, other := range [][]uint64{nil, {1}, long[:api.MaxWords], make([]uint64, api.MaxWords+2)} {
				fails(t, c, long, other, api.ErrSize)
				fails(t, c, other, long, api.ErrSize)
			}
		}
	}
}

// Rows of unlike lengths, also if they have the same value.
func TestRowsOfUnlikeLengths(t *testing.T) {
	list := [][2][]uint64{
		{nil, {0}}, {{1}, {}}, {{1}, {1, 0}}, {{top, top}, {top}}, {{1, 2, 3}, {1, 2}},
		{make([]uint64, api.MaxWords), make([]uint64, api.MaxWords-1)}, {nil, make([]uint64, api.MaxWords)},
	}
	for _, c := range append(goodCalls(), badCalls()...) {
		if c.rows == 1 {
			continue
		}
		for _, p := range list {
			fails(t, c, p[0], p[1], api.ErrArg)
			fails(t, c, p[1], p[0], api.ErrArg)
		}
	}
}

// R4, R7: arguments are not changed, results are new memory, what lies beyond a row does not matter, and a call that is made again gives the same.
func TestMemory(t *testing.T) {
	m := oracle.Mixer(2)
	for _, c := range goodCalls() {
		for _, n := range []int{0, 1, 2, 7} {
			rowX, rowY := m.Row(n), m.Row(n)
			x, outerX := oracle.Framed(rowX)
			y, outerY := oracle.Framed(rowY)
			wasX, wasY := slices.Clone(outerX), slices.Clone(outerY)
			z, w, e := c.do(x, y)
			kept := slices.Clone(z)
			clear(z[:cap(z)])
			if !slices.Equal(outerX, wasX) || !slices.Equal(outerY, wasY) {
				t.Errorf("%s changes its arguments, or shares memory with them: %x, %x", c.name, outerX, outerY)
			}
			z2, w2, e2 := c.do(slices.Clone(rowX), slices.Clone(rowY))
			if !slices.Equal(z2, kept) || w2 != w || e2 != e {
				t.Errorf("%s(%x, %x) = %x, %x, %d, and then %x, %x, %d", c.name, rowX, rowY, kept, w, e, z2, w2, e2)
			}
			clear(rowX)
			clear(rowY)
			if z3, _, _ := c.do(rowX, rowY); n > 0 && len(z3) > 0 && len(z2) > 0 && (&z3[0] == &z2[0] || !slices.Equal(z2, kept)) {
				t.Errorf("%s returns the same memory again", c.name)
			}
		}
	}
}

// R4: a row may be both arguments, and rows may overlap.
func TestSharedArguments(t *testing.T) {
	all := []uint64{top, 5, half, 1, 9, top, 3}
	for _, c := range goodCalls() {
		for i := range 4 {
			was := slices.Clone(all)
			z, w, e := c.do(all[:4], all[i:i+4])
			z2, w2, e2 := c.do(slices.Clone(all[:4]), slices.Clone(all[i:i+4]))
			if !slices.Equal(z, z2) || w != w2 || e != e2 || !slices.Equal(all, was) {
				t.Errorf("%s with rows that overlap: %x, %x, %d, want %x, %x, %d; the rows: %x", c.name, z, w, e, z2, w2, e2, all)
			}
		}
	}
}
