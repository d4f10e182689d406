package nat_test

import (
	"slices"
	"testing"

	"reckoner/api"
	"reckoner/internal/oracle"
	"reckoner/nat"
)

// divides checks quotient and remainder of x by a y that is not 0.
func divides(t *testing.T, x, y api.Nat) {
	t.Helper()
	q, r, e := nat.DivMod(x, y)
	check(t, q, e, value(q...), "quotient", x, y)
	check(t, r, e, value(r...), "remainder", x, y)
	back := value(q...).Times(value(y...)).Plus(value(r...))
	if back.Compare(value(x...)) != 0 || value(r...).Compare(value(y...)) >= 0 {
		t.Errorf("DivMod%s =%s, %d", shown([]any{x, y}), shown([]any{q, r}), e)
	}
}

// P2.4: x = q y + r, r < y, or ErrZero if y is 0.
func TestDivMod(t *testing.T) {
	eachPair(func(x, y api.Nat) {
		if value(y...).Compare(value()) > 0 {
			divides(t, x, y)
			return
		}
		q, r, e := nat.DivMod(x, y)
		fails(t, q, e, api.ErrZero, "quotient", x, y)
		fails(t, r, e, api.ErrZero, "remainder", x, y)
	})
}

// P2.4: dividends made of a quotient and a remainder that are as small or as great as they may be.
func TestDivModOfProducts(t *testing.T) {
	eachPair(func(q, y api.Nat) {
		if value(y...).Compare(value()) == 0 {
			return
		}
		product := value(q...).Times(value(y...))
		for _, r := range []oracle.Number{value(), value(y...).Minus(value(1))} {
			x := api.Nat(product.Plus(r).Words())
			gotQ, gotR, e := nat.DivMod(x, y)
			check(t, gotQ, e, value(q...), "quotient", x, y)
			check(t, gotR, e, r, "remainder", x, y)
		}
	})
}

// P2.4 where the guess of a word of the quotient is hardest: the highest words are equal, the second word of the divisor lessens the guess once or twice, or all but the lower words allow 1 more.
func TestDivModOfHardGuesses(t *testing.T) {
	for _, p := range [][2]api.Nat{
		{{3, 0, half}, {1, 0, half / 4}},
		{{0, 0, half, half - 1}, {1, 0, half}},
		{{0, top - 1, half}, {top, half}},
		{{0, 0, 0, half}, {top, top, half}},
		{{top, top, top - 1, half}, {top, top, half}},
		{{0, 0, top - 1, top}, {top, top, top}},
		{{0, 0, half}, {top, half}},
		{{top, top, top, top, top}, {top, 0, half}},
		{{0, 0, 0, 0, half}, {1, 0, 0, half}},
		{{0, 0, 1}, {top, top}},
	} {
		divides(t, p[0], p[1])
	}
	m := oracle.Mixer(23)
	pick := []uint64{0, 1, 2, half - 1, half, half + 1, top - 1, top}
	for range 40000 {
		x, y := zeros(5), zeros(3)
		for i := range x {
			x[i] = pick[m.Next()%8]
		}
		for i := range y {
			y[i] = pick[m.Next()%8]
		}
		y[2] |= 1 << (m.Next() % 64)
		divides(t, x, y)
	}
}

// P2.4: longer numbers, and as long as they may be.
func TestDivModOfLongNumbers(t *testing.T) {
	m := oracle.Mixer(29)
	for _, c := range [][2]int{{40, 20}, {33, 32}, {64, 3}, {100, 2}} {
		for _, y := range []api.Nat{m.Row(c[1]), ones(c[1]), alone(64*c[1] - 1), append(zeros(c[1]-1), 1)} {
			for _, x := range []api.Nat{m.Row(c[0]), ones(c[0]), alone(64*c[0] - 1), append(ones(c[0]-1), 1)} {
				divides(t, x, y)
			}
		}
	}
	for _, n := range []int{1, 2, 5, 1000, 2048, 4000, 4095, 4096} {
		for _, y := range []api.Nat{m.Row(n), append(m.Row(n-1), 1), ones(n)} {
			for _, x := range []api.Nat{m.Row(api.MaxWords), ones(api.MaxWords)} {
				q, r, e := nat.DivMod(x, y)
				product, _ := nat.Mul(q, y)
				back, _ := nat.Add(product, r)
				if e != api.OK || !slices.Equal(back, x) || nat.Cmp(r, y) >= 0 {
					t.Errorf("DivMod%s: error %d, or not the quotient", shown([]any{x, y}), e)
				}
			}
		}
	}
}

// P2.4: the same with a word.
func TestDivWord(t *testing.T) {
	m := oracle.Mixer(31)
	for _, x := range append(numbers(), m.Row(50), ones(api.MaxWords), zeros(api.MaxWords)) {
		for _, w := range append(edges(), 2, 10, half+1, m.Next()) {
			q, r, e := nat.DivWord(x, w)
			if w == 0 {
				fails(t, q, e, api.ErrZero, "DivWord", x, w)
				fails(t, nat.FromWord(r), e, api.ErrZero, "DivWord", x, w)
				continue
			}
			check(t, q, e, value(q...), "DivWord", x, w)
			if back := value(q...).Times(value(w)).Plus(value(r)); back.Compare(value(x...)) != 0 || r >= w {
				t.Errorf("DivWord%s = %s, %x", shown([]any{x, w}), shown([]any{q}), r)
			}
			q2, r2, e := nat.DivMod(x, api.Nat{w})
			check(t, q2, e, value(q...), "DivMod", x, w)
			check(t, r2, e, value(r), "DivMod", x, w)
		}
	}
}

// The chapter's examples.
func TestExamples(t *testing.T) {
	square, e := nat.Square(api.Nat{top})
	check(t, square, e, power(128).Minus(power(65)).Plus(value(1)), "Square", api.Nat{top})
	tens, e := nat.Pow(api.Nat{10}, 20)
	check(t, tens, e, value(7766279631452241920, 5), "Pow(10, 20)")
	q, r, e := nat.DivMod(tens, api.Nat{3})
	check(t, q, e, value(33333333333333333333%(1<<64), 33333333333333333333>>64), "DivMod", tens, 3)
	check(t, r, e, value(1), "DivMod", tens, 3)
	z, e := nat.Sub(api.Nat{1}, api.Nat{2})
	fails(t, z, e, api.ErrBelow, "Sub(1, 2)")
}
