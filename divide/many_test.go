package divide_test

import (
	"slices"
	"testing"

	"reckoner/api"
	"reckoner/divide"
	"reckoner/internal/oracle"
	"reckoner/nat"
)

// checkMany checks what x leaves by each of l, none of them 0.
func checkMany(t *testing.T, x api.Nat, l []api.Nat) {
	t.Helper()
	got, e := divide.Many(x, l)
	if e != api.OK || len(got) != len(l) {
		t.Errorf("Many%s by %d numbers: error %d, %d numbers", shown(x), len(l), e, len(got))
		return
	}
	for i, y := range l {
		_, r, e := nat.DivMod(x, y)
		check(t, got[i], e, r, "Many", x, y)
	}
}

// positive returns the numbers that are not 0.
func positive(l []api.Nat) []api.Nat {
	return slices.DeleteFunc(slices.Clone(l), isZero)
}

// P5.3: what numbers leave by lists of numbers, of all lengths, some of them more than once.
func TestMany(t *testing.T) {
	list := positive(numbers())
	long := positive(longNumbers())
	checkMany(t, nil, nil)
	checkMany(t, api.Nat{5}, []api.Nat{})
	for i, x := range append(numbers(), long...) {
		for _, n := range []int{1, 2, 3, 4, 7, 20} {
			at := (5*i + n) % (len(list) - n)
			checkMany(t, x, list[at:at+n])
			at = (5*i + n) % (len(long) - n)
			checkMany(t, x, long[at:at+n])
		}
		checkMany(t, x, slices.Repeat([]api.Nat{{3}, {top, 5}, {10, 0}}, 9))
	}
}

// P5.3: as many divisors as there may be, of one word and of all words that there may be.
func TestManyOfMany(t *testing.T) {
	m := oracle.Mixer(67)
	x := api.Nat(m.Row(api.MaxWords))
	var short, mixed []api.Nat
	for i := range 1000 {
		short = append(short, api.Nat{m.Next()})
		mixed = append(mixed, append(m.Row(i%9), 1+m.Next()>>i%64))
	}
	checkMany(t, x, short)
	checkMany(t, ones(api.MaxWords), mixed)
	checkMany(t, api.Nat{7}, mixed)
	checkMany(t, x, slices.Repeat([]api.Nat{{1}}, 1000))
	long := ones(api.MaxWords)
	checkMany(t, x, []api.Nat{long, {3}, x, append(api.Nat{9}, zeros(api.MaxWords-1)...), long[1:], m.Row(2048)})
	checkMany(t, zeros(api.MaxWords), slices.Repeat([]api.Nat{long}, 1000))
}

// P5.3: too many divisors, before one that is 0; and one that is 0, at any place.
func TestManyOfWrongDivisors(t *testing.T) {
	for _, x := range []api.Nat{nil, {0}, {5}, ones(api.MaxWords)} {
		for _, n := range []int{1001, 1002, 70000} {
			for _, y := range []api.Nat{nil, {1}, {top, top}} {
				got, e := divide.Many(x, slices.Repeat([]api.Nat{y}, n))
				fails(t, got, e, api.ErrArg, "Many by too many", x, y)
			}
		}
		for _, n := range []int{1, 2, 3, 1000} {
			for _, zero := range []api.Nat{nil, {0}, zeros(api.MaxWords)} {
				for _, at := range []int{0, n / 2, n - 1} {
					l := slices.Repeat([]api.Nat{{7}}, n)
					l[at] = zero
					got, e := divide.Many(x, l)
					if len(got) != 0 {
						t.Errorf("Many by%s: %d numbers", shown(zero), len(got))
					}
					fails(t, got, e, api.ErrZero, "Many by one that is 0", x)
				}
			}
		}
	}
}

// R2: a number that is too long, at any place, comes before too many numbers and before one that is 0.
func TestManyOfTooLongNumbers(t *testing.T) {
	long := zeros(api.MaxWords + 1)
	for _, n := range []int{0, 1, 2, 1000, 1001, 3000} {
		got, e := divide.Many(long, make([]api.Nat, n))
		fails(t, got, e, api.ErrSize, "Many of too long a number")
		for _, at := range []int{0, n / 2, n} {
			l := make([]api.Nat, n+1)
			l[at] = long
			got, e := divide.Many(api.Nat{5}, l)
			fails(t, got, e, api.ErrSize, "Many by too long a number")
		}
	}
}

// P5.8: Many does not change if x is replaced by what it leaves by the product of all divisors.
func TestManyOfRemainder(t *testing.T) {
	m := oracle.Mixer(71)
	for _, n := range []int{1, 2, 5, 30, 200} {
		x := api.Nat(m.Row(5*n + 3))
		var l []api.Nat
		product := api.Nat{1}
		for i := range n {
			y := api.Nat(append(m.Row(i%4), 1+m.Next()>>i))
			l = append(l, y)
			product = times(product, y)
		}
		_, rest, e := divide.DivMod(x, product)
		want, e2 := divide.Many(x, l)
		got, e3 := divide.Many(rest, l)
		if e+e2+e3 != api.OK || len(got) != n || !oracle.Same(got, want) {
			t.Errorf("Many%s by %d numbers:%s, and%s of what it leaves", shown(x), n, shown(want...), shown(got...))
		}
	}
}

// R4: a list is not changed, and results of the same divisor share no memory.
func TestManyMemory(t *testing.T) {
	x := api.Nat{5, 0}
	l := []api.Nat{{7, 0}, {7, 1}, {7, 1}, {3}, {9}}
	kept := oracle.Copies(l)
	got, e := divide.Many(x, l[:4])
	if e != api.OK || !oracle.Same(got, []api.Nat{{5}, {5}, {5}, {2}}) {
		t.Errorf("Many: error %d,%s", e, shown(got...))
	}
	for i := range got {
		got[i][0] = 11
	}
	if !oracle.Same(got, []api.Nat{{11}, {11}, {11}, {11}}) || x[0] != 5 || !oracle.Same(l, kept) {
		t.Errorf("Many changes its arguments, or shares memory with them:%s%s", shown(x), shown(l...))
	}
}
