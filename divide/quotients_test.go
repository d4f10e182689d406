package divide_test

import (
	"math"
	"slices"
	"strconv"
	"testing"

	"reckoner/api"
	"reckoner/divide"
	"reckoner/internal/oracle"
	"reckoner/nat"
)

// way is a way to divide.
type way struct {
	name   string
	divide func(x, y api.Nat) (q, r api.Nat, e api.Errno)
}

// burnikel is the way of Burnikel and Ziegler, from so many words on.
func burnikel(least int) way {
	return way{"Burnikel " + strconv.Itoa(least), func(x, y api.Nat) (q, r api.Nat, e api.Errno) {
		return divide.Burnikel(x, y, least)
	}}
}

// ways returns all ways, with these numbers of words from which on a divisor is taken apart.
func ways(leasts ...int) []way {
	list := []way{{"Knuth", divide.Knuth}, {"Newton", divide.Newton}, {"DivMod", divide.DivMod}}
	for _, least := range leasts {
		list = append(list, burnikel(least))
	}
	return list
}

// divides checks quotient and remainder of x by y, in these ways, by their definition, or the error of a y that is 0.
func divides(t *testing.T, x, y api.Nat, list []way) {
	t.Helper()
	for _, w := range list {
		q, r, e := w.divide(x, y)
		if isZero(y) {
			fails(t, []api.Nat{q, r}, e, api.ErrZero, w.name, x, y)
			continue
		}
		check(t, plus(times(q, y), r), e, nat.Trim(x), w.name, x, y)
		if nat.Cmp(r, y) >= 0 || !slices.Equal(q, nat.Trim(q)) || !slices.Equal(r, nat.Trim(r)) {
			t.Errorf("%s%s =%s", w.name, shown(x, y), shown(q, r))
		}
	}
}

// P5.3: short numbers, each by each, in all ways.
func TestQuotients(t *testing.T) {
	list := ways(2, 3, 4, 64)
	for _, x := range numbers() {
		for _, y := range numbers() {
			divides(t, x, y, list)
		}
	}
}

// divisible gives dividends with a quotient q by y, which leave as little and as much as they may.
func divisible(q, y api.Nat) []api.Nat {
	product := times(q, y)
	return []api.Nat{product, plus(product, less(y))}
}

// quotients checks that q is the quotient of the dividends that are made of it and a y that is not 0.
func quotients(t *testing.T, q, y api.Nat, list []way) {
	t.Helper()
	for i, x := range divisible(q, y) {
		rest := [2]api.Nat{nil, less(y)}[i]
		for _, w := range list {
			gotQ, gotR, e := w.divide(x, y)
			check(t, gotQ, e, nat.Trim(q), w.name, x, y)
			check(t, gotR, e, rest, w.name, x, y)
		}
	}
}

// P5.3: dividends made of a quotient and a remainder.
func TestQuotientsOfProducts(t *testing.T) {
	list := ways(2, 3, 5)
	for _, q := range numbers() {
		for _, y := range numbers() {
			if !isZero(y) {
				quotients(t, q, y, list)
			}
		}
	}
}

// P5.3: long numbers, in all ways, and dividends made of them.
func TestQuotientsOfLongNumbers(t *testing.T) {
	long := longNumbers()
	all := append(slices.Clone(long), numbers()...)
	for i, x := range long {
		for _, at := range []int{i, 3*i + 1, 5*i + 7, 11*i + 30, 13*i + 90} {
			y := all[at%len(all)]
			divides(t, x, y, ways(2, 7, 33, 64))
			if !isZero(y) {
				quotients(t, x, y, ways(2, 5, 16, 63))
				quotients(t, y, x, ways(3, 31))
			}
		}
	}
}

// P5.3: as many words in the quotient as a divisor has, a few less or more, and many times as many.
func TestQuotientsOfAllLengths(t *testing.T) {
	m := oracle.Mixer(37)
	for _, n := range []int{1, 2, 3, 10, 21, 64} {
		for k := range 2*n + 4 {
			divides(t, m.Row(n+k), m.Row(n), ways(2, 9, 40))
			divides(t, ones(n+k), append(zeros(n-1), half), ways(2, 9))
			divides(t, append(m.Row(n+k), 1), append(m.Row(n), 1), ways(3))
		}
		divides(t, m.Row(9*n+1), m.Row(n), ways(2, 11, 64))
	}
}

// P5.3: the result does not depend on when a divisor is taken apart.
func TestEachLeast(t *testing.T) {
	m := oracle.Mixer(41)
	x, y := api.Nat(m.Row(260)), api.Nat(m.Row(130))
	for least := 2; least <= 64; least++ {
		list := []way{burnikel(least)}
		divides(t, x, y, list)
		divides(t, y, x, list)
		for _, n := range []int{least - 1, least, least + 1, 2*least - 1, 2 * least} {
			divides(t, x[:2*least+n], y[:n], list)
		}
	}
}

// P5.3: a least that is out of range is an error for all numbers, also where it has no effect, and before a y that is 0.
func TestWrongLeast(t *testing.T) {
	for _, least := range []int{1, 0, -1, -2, 65, 66, 1000, 1<<32 + 2, math.MinInt, math.MaxInt} {
		for _, x := range []api.Nat{nil, {0}, {5, 6}, ones(10), ones(api.MaxWords)} {
			for _, y := range []api.Nat{nil, {0, 0}, {5}, ones(10), ones(api.MaxWords)} {
				q, r, e := divide.Burnikel(x, y, least)
				fails(t, []api.Nat{q, r}, e, api.ErrArg, "Burnikel "+strconv.Itoa(least), x, y)
			}
		}
	}
}

// P5.3, R2: the longest numbers.
func TestQuotientsOfLongestNumbers(t *testing.T) {
	m := oracle.Mixer(43)
	most, mixed := ones(api.MaxWords), api.Nat(m.Row(api.MaxWords))
	list := ways(2, 40)
	for _, y := range []api.Nat{{1}, {top}, {0, 1}, {half - 1, 1}, ones(30)} {
		divides(t, most, y, list)
		divides(t, mixed, y, list)
	}
	list = ways(64)
	for _, n := range []int{599, 600, 601, 1365, 2047, 2048, 2049, 3000, 4095, 4096} {
		for _, y := range []api.Nat{m.Row(n), append(m.Row(n-1), 1), append(zeros(n-1), half), append(ones(n-1), half-1), append(zeros(n-1), 1)} {
			divides(t, mixed, y, list)
		}
		divides(t, most, append(ones(n-1), half), list)
		divides(t, m.Row(n), mixed, list)
	}
	for _, n := range []int{1000, 2048, 2500} {
		q, y := shapes(n, &m), shapes(api.MaxWords-n, &m)
		for i := range q {
			quotients(t, q[i], y[(3*i+2)%len(y)], list)
		}
	}
}

// P5.7: all ways give the quotient of chapter 2.
func TestQuotientsOfSchoolbook(t *testing.T) {
	m := oracle.Mixer(47)
	for n := 1; n < 130; n += 2 {
		for _, k := range []int{1, 2, n, n / 3, 3 * n} {
			x, y := api.Nat(m.Row(n+k)), api.Nat(m.Row(n))
			q, r, e := nat.DivMod(x, y)
			for _, w := range ways(2, 13, 64) {
				gotQ, gotR, e2 := w.divide(x, y)
				check(t, gotQ, e+e2, q, w.name, x, y)
				check(t, gotR, e+e2, r, w.name, x, y)
			}
		}
	}
}
