package divide_test

import (
	"math"
	"testing"

	"reckoner/api"
	"reckoner/divide"
	"reckoner/internal/oracle"
	"reckoner/nat"
)

// exact checks Exact of x by y by its definition.
func exact(t *testing.T, x, y api.Nat) {
	t.Helper()
	got, e := divide.Exact(x, y)
	if isZero(y) {
		fails(t, []api.Nat{got}, e, api.ErrZero, "Exact", x, y)
		return
	}
	q, r, _ := nat.DivMod(x, y)
	if !isZero(r) {
		fails(t, []api.Nat{got}, e, api.ErrNone, "Exact", x, y)
		return
	}
	check(t, got, e, q, "Exact", x, y)
}

// P5.4, P5.7: exact quotients; Exact of a product gives the factor, and of a product and 1 more or less none.
func TestExact(t *testing.T) {
	list := numbers()
	for i, x := range list {
		for _, y := range append(list, longNumbers()[(7*i)%143]) {
			exact(t, x, y)
			product := times(x, y)
			exact(t, product, y)
			if isZero(y) {
				continue
			}
			got, e := divide.Exact(product, y)
			check(t, got, e, nat.Trim(x), "Exact", product, y)
			if nat.Len(y) > 1 {
				got, e = divide.Exact(plus(product, api.Nat{1}), y)
				fails(t, []api.Nat{got}, e, api.ErrNone, "Exact of 1 more than", product, y)
			}
			if nat.Len(y) > 1 && !isZero(x) {
				got, e = divide.Exact(less(product), y)
				fails(t, []api.Nat{got}, e, api.ErrNone, "Exact of 1 less than", product, y)
			}
		}
	}
}

// P5.4, R2: exact quotients of the longest numbers.
func TestExactOfLongestNumbers(t *testing.T) {
	m := oracle.Mixer(53)
	most := ones(api.MaxWords)
	for _, n := range []int{1, 2, 700, 2048, 4000} {
		x, y := api.Nat(m.Row(api.MaxWords-n)), api.Nat(m.Row(n))
		product := times(x, y)
		got, e := divide.Exact(product, y)
		check(t, got, e, x, "Exact", product, y)
		got, e = divide.Exact(product, x)
		check(t, got, e, y, "Exact", product, x)
	}
	for _, y := range []api.Nat{{1}, {2}, {3}, most, most[1:], ones(2048), zeros(api.MaxWords)} {
		exact(t, most, y)
		exact(t, y, most)
	}
}

// checkOdd checks Odd by its definition: q is less than 2^(64 n), and q y leaves what x leaves.
func checkOdd(t *testing.T, x, y api.Nat, n int) {
	t.Helper()
	got, e := divide.Odd(x, y, n)
	if !nat.Bit(y, 0) {
		fails(t, []api.Nat{got}, e, api.ErrArg, "Odd", x, y)
		return
	}
	if len(got) > n {
		t.Errorf("Odd%s of %d words =%s", shown(x, y), n, shown(got))
		return
	}
	left := append(times(got, y), zeros(n)...)[:n]
	want := append(x[:len(x):len(x)], zeros(n)...)[:n]
	check(t, got, e, nat.Trim(got), "Odd", x, y)
	check(t, nat.Trim(left), e, nat.Trim(want), "product of Odd", x, y)
}

// odd returns y with its lowest bit 1.
func odd(y api.Nat) api.Nat {
	z := append(api.Nat(nil), y...)
	z[0] |= 1
	return z
}

// P5.4: quotients from the lowest word on, also of an x that y does not divide.
func TestOdd(t *testing.T) {
	list := numbers()
	for i, x := range list {
		for j, y := range list {
			n := (i + j) % 7
			checkOdd(t, x, y, n)
			if len(y) > 0 {
				checkOdd(t, x, odd(y), n)
				checkOdd(t, x, odd(y), n+4)
			}
		}
	}
	long := longNumbers()
	for i, x := range long {
		y := odd(long[(7*i+3)%len(long)])
		for _, n := range []int{0, 1, len(x) - 1, len(x), len(x) + 1, len(y), len(x) + len(y), 300} {
			checkOdd(t, x, y, n)
		}
	}
}

// P5.4, R2: as many words as there may be.
func TestOddOfLongestNumbers(t *testing.T) {
	m := oracle.Mixer(59)
	most, mixed := ones(api.MaxWords), api.Nat(m.Row(api.MaxWords))
	for _, y := range []api.Nat{{1}, {top, 0}, m.Row(3), m.Row(2000), m.Row(api.MaxWords), most, append(api.Nat{1}, zeros(api.MaxWords-1)...)} {
		for _, n := range []int{0, 1, 4095, api.MaxWords} {
			checkOdd(t, mixed, odd(y), n)
			checkOdd(t, api.Nat{1}, odd(y), n)
		}
	}
	checkOdd(t, zeros(api.MaxWords), most, api.MaxWords)
}

// P5.4: divisors that are even, and numbers of words out of range.
func TestOddOfWrongArguments(t *testing.T) {
	for _, x := range []api.Nat{nil, {0}, {5, 6}, ones(api.MaxWords)} {
		for _, y := range []api.Nat{nil, {0}, {0, 0, 1}, {2}, {top - 1, 5}, alone(api.MaxShift - 1)} {
			for _, n := range []int{-1, 0, 1, 5, api.MaxWords, api.MaxWords + 1} {
				got, e := divide.Odd(x, y, n)
				fails(t, []api.Nat{got}, e, api.ErrArg, "Odd", x, y)
			}
		}
		for _, y := range []api.Nat{{1}, {3, 4}, ones(api.MaxWords)} {
			for _, n := range []int{-1, -2, -64, api.MaxWords + 1, 1 << 32, math.MinInt, math.MaxInt} {
				got, e := divide.Odd(x, y, n)
				fails(t, []api.Nat{got}, e, api.ErrArg, "Odd", x, y)
			}
		}
	}
}

// P5.7: Odd of n words gives Exact, if that has at most n words; of fewer words, what it leaves.
func TestOddOfProducts(t *testing.T) {
	list := append(numbers(), longNumbers()[:60]...)
	for i, x := range list {
		y := list[(11*i+5)%len(list)]
		if len(y) == 0 {
			continue
		}
		y = odd(y)
		product := times(x, y)
		want, e := divide.Exact(product, y)
		for _, n := range []int{len(want), len(want) + 1, len(want) + 9} {
			got, e2 := divide.Odd(product, y, n)
			check(t, got, e+e2, want, "Odd of a product", product, y)
		}
		n := len(want) / 2
		got, e := divide.Odd(product, y, n)
		check(t, got, e, nat.Trim(want[:n]), "Odd of fewer words", product, y)
	}
}

// roundings are the five roundings.
var roundings = []api.Rounding{api.NearEven, api.NearAway, api.ToZero, api.Up, api.Down}

// rounded returns x / y by the definition of a rounding, from floor and what is left.
func rounded(x, y api.Nat, m api.Rounding) api.Nat {
	q, r, _ := nat.DivMod(x, y)
	next := plus(q, api.Nat{1})
	twice := nat.Cmp(plus(r, r), y)
	switch {
	case isZero(r), m == api.ToZero, m == api.Down:
		return q
	case m == api.Up, twice > 0, twice == 0 && m == api.NearAway:
		return next
	case twice < 0:
		return q
	}
	if nat.Bit(q, 0) {
		return next
	}
	return q
}

// P5.5: quotients in all roundings, of numbers and of those in the middle between two quotients, and beside it.
func TestRounded(t *testing.T) {
	list := numbers()
	for i, x := range list {
		for _, y := range append(list, longNumbers()[(11*i)%143]) {
			middle := plus(times(plus(x, x), y), y)
			for _, m := range roundings {
				got, e := divide.Rounded(x, y, m)
				if isZero(y) {
					fails(t, []api.Nat{got}, e, api.ErrZero, "Rounded", x, y)
					continue
				}
				check(t, got, e, rounded(x, y, m), "Rounded", x, y)
				for _, z := range []api.Nat{less(middle), middle, plus(middle, api.Nat{1})} {
					got, e = divide.Rounded(z, plus(y, y), m)
					check(t, got, e, rounded(z, plus(y, y), m), "Rounded", z, plus(y, y))
				}
			}
		}
	}
}

// P5.5: small numbers, whose quotients are known.
func TestRoundedOfSmallNumbers(t *testing.T) {
	for _, c := range []struct {
		x, y uint64
		want [5]uint64 // as roundings has them
	}{
		{5, 2, [5]uint64{2, 3, 2, 3, 2}}, {7, 2, [5]uint64{4, 4, 3, 4, 3}}, {1, 2, [5]uint64{0, 1, 0, 1, 0}}, {6, 2, [5]uint64{3, 3, 3, 3, 3}},
		{1, 3, [5]uint64{0, 0, 0, 1, 0}}, {2, 3, [5]uint64{1, 1, 0, 1, 0}}, {0, 3, [5]uint64{}}, {9, 10, [5]uint64{1, 1, 0, 1, 0}},
		{15, 10, [5]uint64{2, 2, 1, 2, 1}}, {25, 10, [5]uint64{2, 3, 2, 3, 2}}, {top, half, [5]uint64{2, 2, 1, 2, 1}}, {half, top, [5]uint64{1, 1, 0, 1, 0}},
	} {
		for i, m := range roundings {
			got, e := divide.Rounded(api.Nat{c.x}, api.Nat{c.y}, m)
			check(t, got, e, nat.FromWord(c.want[i]), "Rounded", api.Nat{c.x}, api.Nat{c.y})
		}
	}
}

// P5.5, R2: the longest numbers, of which twice the remainder, or the next quotient, is longest.
func TestRoundedOfLongestNumbers(t *testing.T) {
	most, m := ones(api.MaxWords), oracle.Mixer(61)
	for _, p := range [][2]api.Nat{
		{most, {1}}, {most, {2}}, {most, {top}}, {most, most}, {less(most), most}, {alone(api.MaxShift - 1), most}, {less(alone(api.MaxShift - 1)), most},
		{most, alone(api.MaxShift - 1)}, {append(zeros(api.MaxWords-1), half+half/2), alone(api.MaxShift - 1)}, {m.Row(api.MaxWords), m.Row(2000)}, {zeros(api.MaxWords), most},
	} {
		for _, m := range roundings {
			got, e := divide.Rounded(p[0], p[1], m)
			check(t, got, e, rounded(p[0], p[1], m), "Rounded", p[0], p[1])
		}
	}
}

// P5.5: what is no rounding is an error for all numbers, before a y that is 0.
func TestWrongRounding(t *testing.T) {
	for _, m := range []api.Rounding{-1, 5, 6, 1000, math.MinInt, math.MaxInt} {
		for _, x := range []api.Nat{nil, {6}, ones(api.MaxWords)} {
			for _, y := range []api.Nat{nil, {0, 0}, {1}, {4}, ones(api.MaxWords)} {
				got, e := divide.Rounded(x, y, m)
				fails(t, []api.Nat{got}, e, api.ErrArg, "Rounded", x, y)
			}
		}
	}
}
