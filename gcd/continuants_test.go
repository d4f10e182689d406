package gcd_test

import (
	"slices"
	"testing"

	"reckoner/api"
	"reckoner/gcd"
	"reckoner/internal/oracle"
	"reckoner/nat"
)

// continuant returns the continuant of a list by its definition, and whether those of all its beginnings have no more words than a number may have.
func continuant(l []api.Nat) (api.Nat, bool) {
	var before api.Nat
	last := api.Nat{1}
	fits := true
	for _, q := range l {
		before, last = last, plus(times(q, last), before)
		fits = fits && len(last) <= api.MaxWords
	}
	return last, fits
}

// checkContinuant checks the continuant of a list.
func checkContinuant(t *testing.T, l []api.Nat) {
	t.Helper()
	got, e := gcd.Continuant(l)
	want, fits := continuant(l)
	if !fits {
		oracle.Fails(t, []api.Nat{got}, e, api.ErrSize, "Continuant", l...)
		return
	}
	oracle.Check(t, got, e, want, "Continuant", l...)
}

// oneByOne returns the product of the matrices q 1, 1 0 by its definition, one matrix after the other, each row times each column.
func oneByOne(l []api.Nat) matrix {
	z := matrix{{1}, nil, nil, {1}}
	for _, q := range l {
		z = matrix{plus(times(z[0], q), z[1]), z[0], plus(times(z[2], q), z[3]), z[2]}
	}
	return z
}

// checkMatrix checks the matrix of a list.
func checkMatrix(t *testing.T, l []api.Nat) {
	t.Helper()
	got, e := gcd.Matrix(l)
	want := oneByOne(l)
	if slices.ContainsFunc(want[:], func(x api.Nat) bool { return len(x) > api.MaxWords }) {
		oracle.Fails(t, got[:], e, api.ErrSize, "Matrix", l...)
		return
	}
	if e != api.OK || !oracle.Same(got[:], want[:]) {
		t.Errorf("Matrix%s: error %d,%s; want%s", shown(l...), e, shown(got[:]...), shown(want[:]...))
	}
}

// P7.3: all short lists of small numbers, 0 among them.
func TestContinuantsOfSmallNumbers(t *testing.T) {
	checkContinuant(t, nil)
	checkMatrix(t, nil)
	for n := 1; n < 7; n++ {
		many := 1
		for range n {
			many *= 4
		}
		for i := range many {
			var l []api.Nat
			for k := range n {
				l = append(l, nat.FromWord(uint64(i>>(2*k)&3)))
			}
			checkContinuant(t, l)
			checkMatrix(t, l)
		}
	}
}

// P7.3: lists of numbers of all lengths, with and without some that are 0.
func TestContinuants(t *testing.T) {
	m := oracle.Mixer(227)
	some := oracle.Samples(9, &m)
	for n := 1; n < 60; n++ {
		for range 8 {
			l := randomQuotients(n, &m)
			checkContinuant(t, l)
			checkMatrix(t, l)
			for range n / 3 {
				l[m.Next()%uint64(n)] = [][]uint64{nil, {0, 0}, some[m.Next()%uint64(len(some))]}[m.Next()%3]
			}
			checkContinuant(t, l)
			checkMatrix(t, l)
		}
	}
}

// P7.8: the numbers themselves, divided by their divisor, are continuants; a matrix has continuants as elements, and its determinant is 1 or -1.
func TestEuler(t *testing.T) {
	m := oracle.Mixer(229)
	list := oracle.Samples(10, &m)
	for i, a := range list {
		for _, b := range list[i%3:] {
			if isZero(b) {
				continue
			}
			l, _ := gcd.Quotients(a, b)
			g, _ := gcd.Lehmer(a, b)
			for k, x := range []api.Nat{a, b} {
				want, _, _ := nat.DivMod(x, g)
				got, e := gcd.Continuant(l[k:])
				oracle.Check(t, got, e, want, "Continuant of the quotients", a, b)
			}
			got, e := gcd.Matrix(l)
			n := len(l)
			for k, part := range [][]api.Nat{l, l[:n-1], l[1:], l[min(1, n-1) : n-1]} {
				want, e2 := gcd.Continuant(part)
				if k == 3 && n == 1 {
					want = nil // of less than no numbers
				}
				oracle.Check(t, got[k], e+e2, want, "Matrix of the quotients", a, b)
			}
			one, other := times(got[0], got[3]), times(got[1], got[2])
			if n%2 == 1 {
				one, other = other, one
			}
			if nat.Cmp(one, plus(other, api.Nat{1})) != 0 {
				t.Errorf("Matrix of the quotients of%s: the determinant of%s", shown(a, b), shown(got[:]...))
			}
		}
	}
}

// P7.3, R2: continuants about as long as a number may be; beginnings that are longer than the whole list's; and numbers so long that only 0 leaves room for them.
func TestLongContinuants(t *testing.T) {
	long, longer, zero := alone(64*2000), alone(64*3000), api.Nat(nil)
	most := ones(api.MaxWords)
	for _, l := range [][]api.Nat{
		{most}, {most, {1}}, {{1}, most}, {less(most), {1}}, {{1}, less(most)}, {alone(api.MaxShift - 1), {2}}, {alone(api.MaxShift - 1), {1}}, {less(alone(api.MaxShift - 1)), {2}},
		{long, longer}, {long, longer, zero}, {long, longer, zero, {1}}, {zero, long, longer}, {zero, long, longer, zero}, {zero, long, zero, longer}, {zero, most, zero, most}, {zero, most, zero, most, {3}},
		{most, zero, most}, {most, zero}, {most, zero, zero, most}, {{5}, zero, most}, {{5}, zero, less(most)}, {{1}, {1}, zero, most}, {zero, zero, zero, most, {1}}, {most, zero, {1}}, {most, zero, zero}, {long, zero, longer, zero, long, zero, longer},
		{zero, most}, {zero, most, {1}}, {zero, {1}, most}, {zero, most, {2}}, {zero, {2}, most}, {{1}, zero, zero, most}, {zero, zero, most}, {zero, zero, {1}, most}, {zero, most, zero, {2}, zero}, {zero, most, zero, {1}, zero, {1}},
		slices.Repeat([]api.Nat{{0, 1}}, 4095), slices.Repeat([]api.Nat{{0, 1}}, 4096), slices.Repeat([]api.Nat{alone(64 * 100), zero}, 500), append(slices.Repeat([]api.Nat{{0, 1}}, 4096), zero), append(slices.Repeat([]api.Nat{alone(64 * 409)}, 10), alone(64*5)), append(slices.Repeat([]api.Nat{alone(64 * 409)}, 10), alone(64*6)),
	} {
		checkContinuant(t, l)
		checkMatrix(t, l)
	}
}

// P7.3: as many numbers as there may be, and one more; that a number is too long comes first.
func TestContinuantsOfManyNumbers(t *testing.T) {
	f, f2 := fibonacci(10000)
	l := slices.Repeat(words(1), 10000)
	z, e := gcd.Continuant(l)
	oracle.Check(t, z, e, f2, "Continuant of as many as there may be")
	m, e := gcd.Matrix(l)
	f0, _ := fibonacci(9999)
	checkList(t, m[:], e, []api.Nat{f2, f, f, f0}, "Matrix of as many as there may be")
	long := alone(64 * 2046)
	l = slices.Repeat([]api.Nat{long, nil}, 5000)
	l[0], l[1] = api.Nat{2}, long // and then long, 0, long, 0: the long ones count as their sum
	after := plus(times(long, api.Nat{2}), api.Nat{1})
	z, e = gcd.Continuant(l)
	oracle.Check(t, z, e, after, "Continuant of long numbers, each second one 0")
	z, e = gcd.Continuant(l[:9999])
	oracle.Check(t, z, e, plus(times(times(long, api.Nat{4999}), after), api.Nat{2}), "Continuant of long numbers, with 0 between them")
	for _, n := range []int{10001, 30000} {
		for _, x := range []api.Nat{nil, {1}, ones(9)} {
			l := slices.Repeat([]api.Nat{x}, n)
			z, e := gcd.Continuant(l)
			oracle.Fails(t, []api.Nat{z}, e, api.ErrArg, "Continuant of too many", x)
			m, e := gcd.Matrix(l)
			oracle.Fails(t, m[:], e, api.ErrArg, "Matrix of too many", x)
		}
		l := append(make([]api.Nat, n), oracle.Zeros(api.MaxWords+1))
		z, e := gcd.Continuant(l)
		oracle.Fails(t, []api.Nat{z}, e, api.ErrSize, "Continuant of too many, one too long")
		m, e := gcd.Matrix(l)
		oracle.Fails(t, m[:], e, api.ErrSize, "Matrix of too many, one too long")
	}
}
