package gcd_test

import (
	"slices"
	"testing"

	"reckoner/api"
	"reckoner/gcd"
	"reckoner/internal/oracle"
	"reckoner/nat"
)

// checkList reports a list that is not the one that is wanted, each number canonical.
func checkList(t *testing.T, got []api.Nat, e api.Errno, want []api.Nat, name string, args ...api.Nat) {
	t.Helper()
	if e != api.OK || !oracle.Same(got, want) {
		t.Errorf("%s%s: error %d, %d numbers:%s; want %d:%s", name, shown(args...), e, len(got), shown(got[:min(5, len(got))]...), len(want), shown(want[:min(5, len(want))]...))
	}
}

// checkQuotientsAre checks that these are the quotients of a and b, and how many there are.
func checkQuotientsAre(t *testing.T, a, b api.Nat, want []api.Nat) {
	t.Helper()
	got, e := gcd.Quotients(a, b)
	checkList(t, got, e, want, "Quotients", a, b)
	if n, e := gcd.Steps(a, b); e != api.OK || n != len(want) {
		t.Errorf("Steps%s: error %d, %d; want %d", shown(a, b), e, n, len(want))
	}
}

// division returns the quotients of a and b by their definition, and all numbers that are left: a, b, r1, r2, and so on, up to 0.
func division(a, b api.Nat) (quotients, left []api.Nat) {
	left = []api.Nat{nat.Trim(a), nat.Trim(b)}
	for len(left[len(left)-1]) > 0 {
		q, r, _ := nat.DivMod(left[len(left)-2], left[len(left)-1])
		quotients, left = append(quotients, q), append(left, r)
	}
	return quotients, left
}

// checkQuotients checks the quotients of a and b, b not 0, by their definition.
func checkQuotients(t *testing.T, a, b api.Nat) {
	t.Helper()
	quotients, _ := division(a, b)
	checkQuotientsAre(t, a, b, quotients)
}

// P7.3: small numbers.
func TestQuotientsOfSmallNumbers(t *testing.T) {
	for a := range uint64(150) {
		for b := uint64(1); b < 150; b++ {
			var want []api.Nat
			for x, y := a, b; y > 0; x, y = y, x%y {
				want = append(want, nat.FromWord(x/y))
			}
			checkQuotientsAre(t, nat.FromWord(a), nat.FromWord(b), want)
		}
	}
}

// P7.3: numbers of all lengths, with each other.
func TestQuotients(t *testing.T) {
	m := oracle.Mixer(191)
	list := oracle.Samples(13, &m)
	for _, a := range list {
		for _, b := range list {
			if !isZero(b) {
				checkQuotients(t, a, b)
			}
		}
	}
}

// P7.3, P7.8: lists of quotients of all kinds, found again in the numbers that have them, and in their multiples.
func TestQuotientsOfQuotients(t *testing.T) {
	m := oracle.Mixer(193)
	for n := 1; n < 400; n++ {
		l := randomQuotients(n, &m)
		p := product(l)
		checkQuotientsAre(t, p[0], p[2], l)
		g := m.Row(1 + n%5)
		checkQuotientsAre(t, times(p[0], g), padded(times(p[2], g), n%3), l)
	}
}

// P7.3: a divisor of 0.
func TestQuotientsByZero(t *testing.T) {
	for _, a := range []api.Nat{nil, {0}, {1}, {5, 6}, ones(api.MaxWords)} {
		for _, b := range []api.Nat{nil, {0, 0}, oracle.Zeros(api.MaxWords)} {
			l, e := gcd.Quotients(a, b)
			n, e2 := gcd.Steps(a, b)
			if len(l) > 0 || n != 0 || e != api.ErrZero || e2 != api.ErrZero {
				t.Errorf("Quotients and Steps%s: errors %d, %d, %d quotients, %d", shown(a, b), e, e2, len(l), n)
			}
		}
	}
}

// P7.3, R2: the longest numbers: with as many quotients as there may be, and with as long ones. Quotients are those of a and b if the last one is not 1, and a and b are the divisor's multiples by the continuants (P7.8).
func TestQuotientsOfLongestNumbers(t *testing.T) {
	f, f2 := fibonacci(longestFibonacci - 1)
	checkQuotientsAre(t, f2, f, append(slices.Repeat(words(1), longestFibonacci-3), api.Nat{2}))
	m := oracle.Mixer(197)
	for _, l := range [][]api.Nat{{m.Row(api.MaxWords), m.Row(api.MaxWords)}, {m.Row(api.MaxWords), m.Row(1500)}, {m.Row(700), m.Row(api.MaxWords)}, {alone(api.MaxShift - 1), ones(2048)}, {ones(api.MaxWords), {3}}} {
		a, b := l[0], l[1]
		q, e := gcd.Quotients(a, b)
		n, e2 := gcd.Steps(a, b)
		g, _ := gcd.Euclid(a, b)
		p := product(q)
		if e+e2 != api.OK || n != len(q) || len(q) > 1 && nat.Cmp(q[len(q)-1], api.Nat{1}) <= 0 || slices.ContainsFunc(q[1:], isZero) {
			t.Errorf("Quotients and Steps%s: errors %d, %d, %d quotients, %d", shown(a, b), e, e2, len(q), n)
		}
		if !slices.Equal(times(p[0], g), a) || !slices.Equal(times(p[2], g), b) {
			t.Errorf("Quotients%s: %d, of other numbers", shown(a, b), len(q))
		}
	}
	l := append([]api.Nat{{5}, m.Row(2000)}, m.Row(1000), m.Row(1000), api.Nat{7})
	p := product(l)
	checkQuotientsAre(t, p[0], p[2], l)
}

// digits returns the number of decimal digits of x.
func digits(x api.Nat) int {
	n := 0
	for ; len(x) > 0; n++ {
		x, _, _ = nat.DivWord(x, 10)
	}
	return n
}

// P7.6: all small numbers, and those with the most quotients.
func TestLame(t *testing.T) {
	check := func(a, b api.Nat) {
		if n, e := gcd.Steps(a, b); e != api.OK || n > 5*digits(b) {
			t.Errorf("Steps%s: error %d, %d", shown(a, b), e, n)
		}
	}
	for a := range uint64(300) {
		for b := uint64(1); b < a; b++ {
			check(api.Nat{a}, api.Nat{b})
		}
	}
	for n := 2; n < 1500; n++ {
		b, a := fibonacci(n)
		check(a, b)
	}
	b, a := fibonacci(6) // 8 and 13
	if n, _ := gcd.Steps(a, b); n != 5 {
		t.Errorf("Steps of 13 and 8: %d", n)
	}
}

// checkHalf checks half way of a and b by its definition.
func checkHalf(t *testing.T, a, b api.Nat) {
	t.Helper()
	quotients, left := division(a, b)
	k := 0
	for nat.Len(left[k+1]) > (nat.Len(a)+1)/2 {
		k++
	}
	got, c, d, e := gcd.Half(a, b)
	checkList(t, got, e, quotients[:k], "Half", a, b)
	oracle.Check(t, c, e, left[k], "c of Half", a, b)
	oracle.Check(t, d, e, left[k+1], "d of Half", a, b)
	checkHalfMatrix(t, a, b)
}

// checkHalfMatrix checks what half way's matrix tells (P7.8), and that it is half way.
func checkHalfMatrix(t *testing.T, a, b api.Nat) {
	t.Helper()
	l, c, d, e := gcd.Half(a, b)
	p := product(l)
	if len(l) <= 10000 {
		m, e := gcd.Matrix(l)
		if e != api.OK || !oracle.Same(m[:], p[:]) {
			t.Errorf("Matrix of half way of%s: error %d,%s", shown(a, b), e, shown(m[:]...))
		}
	}
	if e != api.OK || nat.Cmp(a, plus(times(p[0], c), times(p[1], d))) != 0 || nat.Cmp(b, plus(times(p[2], c), times(p[3], d))) != 0 {
		t.Errorf("Half%s: error %d, %d quotients,%s", shown(a, b), e, len(l), shown(c, d))
	}
	bits := (nat.Len(a) + 1) / 2
	if nat.Len(d) > bits || len(l) > 0 && (nat.Len(c) <= bits || nat.Cmp(c, d) <= 0) {
		t.Errorf("Half%s: %d quotients,%s", shown(a, b), len(l), shown(c, d))
	}
}

// P7.4: small numbers; and those of which the first is less.
func TestHalfOfSmallNumbers(t *testing.T) {
	for a := range uint64(300) {
		for b := range uint64(300) {
			if b <= a {
				checkHalf(t, nat.FromWord(a), nat.FromWord(b))
				continue
			}
			l, c, d, e := gcd.Half(nat.FromWord(a), nat.FromWord(b))
			oracle.Fails(t, append(l, c, d), e, api.ErrArg, "Half", nat.FromWord(a), nat.FromWord(b))
			if len(l) > 0 {
				t.Errorf("Half of %d and %d: %d quotients", a, b, len(l))
			}
		}
	}
}

// P7.4, P7.8: numbers of all lengths, with each other.
func TestHalf(t *testing.T) {
	m := oracle.Mixer(199)
	list := oracle.Samples(13, &m)
	for _, a := range list {
		for _, b := range list {
			if nat.Cmp(a, b) >= 0 {
				checkHalf(t, a, b)
				continue
			}
			l, c, d, e := gcd.Half(a, b)
			oracle.Fails(t, append(l, c, d), e, api.ErrArg, "Half", a, b)
		}
	}
}

// P7.4: numbers of each length in bits, and with all kinds of quotients, so that half way ends anywhere among those that are taken at once.
func TestHalfOfAllLengths(t *testing.T) {
	m := oracle.Mixer(211)
	for n := 1; n < 700; n++ {
		a := api.Nat(m.Row((n + 63) / 64))
		last := &a[len(a)-1]
		*last = (*last | half) >> (-n & 63)
		for _, b := range []api.Nat{a, less(a), m.Row(len(a) - 1), oracle.Alone(n - 1), alone(n / 2), less(alone(n / 2)), less(alone((n + 1) / 2)), alone((n + 1) / 2)} {
			if nat.Cmp(a, b) >= 0 {
				checkHalf(t, a, b)
			}
		}
		p := product(append(randomQuotients(n/10, &m), api.Nat{2}))
		if nat.Cmp(p[0], p[2]) >= 0 {
			g := m.Row(n % 9)
			checkHalf(t, p[0], p[2])
			checkHalf(t, times(p[0], g), times(p[2], g))
		}
	}
}

// P7.4, R2: the longest numbers.
func TestHalfOfLongestNumbers(t *testing.T) {
	m := oracle.Mixer(223)
	f, f2 := fibonacci(longestFibonacci - 1)
	checkHalfMatrix(t, f2, f)
	a := append(m.Row(api.MaxWords-1), top)
	for _, b := range []api.Nat{a, less(a), m.Row(api.MaxWords - 1), m.Row(2049), m.Row(2048), alone(api.MaxShift / 2), less(alone(api.MaxShift / 2)), {1}, nil} {
		checkHalfMatrix(t, a, b)
	}
	for _, l := range [][]api.Nat{{ones(4095), a}, {nil, {1}}, {oracle.Zeros(api.MaxWords), {1}}, {less(a), a}} {
		l, c, d, e := gcd.Half(l[0], l[1])
		oracle.Fails(t, append(l, c, d), e, api.ErrArg, "Half of less and more")
	}
}
