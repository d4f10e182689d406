package gcd_test

import (
	"slices"
	"strconv"
	"testing"

	"reckoner/api"
	"reckoner/gcd"
	"reckoner/internal/oracle"
	"reckoner/nat"
)

// ways returns all ways to the divisor of two numbers.
func ways() map[string]func(a, b api.Nat) (api.Nat, api.Errno) {
	return map[string]func(a, b api.Nat) (api.Nat, api.Errno){
		"Euclid": gcd.Euclid,
		"Binary": gcd.Binary,
		"Lehmer": gcd.Lehmer,
		"All":    func(a, b api.Nat) (api.Nat, api.Errno) { return gcd.All([]api.Nat{a, b}) },
		"Extended": func(a, b api.Nat) (api.Nat, api.Errno) {
			g, _, _, e := gcd.Extended(a, b)
			return g, e
		},
	}
}

// checkDivisorIs checks that all ways give the divisor g of a and b, whichever comes first.
func checkDivisorIs(t *testing.T, a, b, g api.Nat) {
	t.Helper()
	for name, f := range ways() {
		for _, l := range [][]api.Nat{{a, b}, {b, a}} {
			z, e := f(l[0], l[1])
			oracle.Check(t, z, e, g, name, l...)
		}
	}
}

// divides tells whether g divides x.
func divides(g, x api.Nat) bool {
	if isZero(g) {
		return isZero(x)
	}
	_, rest, _ := nat.DivMod(x, g)
	return len(rest) == 0
}

// combined tells whether a x + b y is g.
func combined(a api.Nat, x api.Int, b api.Nat, y api.Int, g api.Nat) bool {
	var sides [2]api.Nat // what is added, and what is taken away
	for i, z := range []api.Int{x, y} {
		side := &sides[0]
		if z.Neg {
			side = &sides[1]
		}
		*side = plus(*side, times([]api.Nat{a, b}[i], z.Mag))
	}
	return nat.Cmp(sides[0], plus(sides[1], g)) == 0
}

// checkExtended checks Extended by its definition: as every common divisor of a and b divides a x + b y, the number g that is that and a common divisor is the greatest one.
func checkExtended(t *testing.T, a, b api.Nat) api.Nat {
	t.Helper()
	g, x, y, e := gcd.Extended(a, b)
	if e != api.OK || !isCanonical(g) || !isCanonical(x.Mag) || !isCanonical(y.Mag) || !divides(g, a) || !divides(g, b) || !combined(a, x, b, y, g) {
		t.Errorf("Extended%s: error %d,%s, %v, %v", shown(a, b), e, shown(g, x.Mag, y.Mag), x.Neg, y.Neg)
	}
	if isZero(b) {
		if nat.Cmp(x.Mag, api.Nat{1}) != 0 || x.Neg || len(y.Mag) > 0 || y.Neg {
			t.Errorf("Extended%s:%s, %v, %v", shown(a, b), shown(x.Mag, y.Mag), x.Neg, y.Neg)
		}
		return g
	}
	if x.Neg || nat.Cmp(times(x.Mag, g), b) >= 0 { // so that x is less than b / g, which is what may be taken from it
		t.Errorf("Extended%s: x is%s, %v, not the least one", shown(a, b), shown(x.Mag), x.Neg)
	}
	if y.Neg && len(y.Mag) == 0 || !y.Neg && len(y.Mag) > 0 && len(x.Mag) > 0 {
		t.Errorf("Extended%s: x is%s, y is%s, %v", shown(a, b), shown(x.Mag), shown(y.Mag), y.Neg)
	}
	return g
}

// checkLcm checks that the product of Lcm and the divisor g is that of both numbers (P7.7), if it is not too long.
func checkLcm(t *testing.T, a, b, g api.Nat) {
	t.Helper()
	z, e := gcd.Lcm(a, b)
	if isZero(a) || isZero(b) {
		oracle.Check(t, z, e, nil, "Lcm", a, b)
		return
	}
	cofactor, _, _ := nat.DivMod(b, g)
	want := times(a, cofactor)
	if len(want) > api.MaxWords {
		oracle.Fails(t, []api.Nat{z}, e, api.ErrSize, "Lcm", a, b)
		return
	}
	oracle.Check(t, z, e, want, "Lcm", a, b)
}

// checkDivisor checks all functions of two numbers that have to do with their divisor, and returns it.
func checkDivisor(t *testing.T, a, b api.Nat) api.Nat {
	t.Helper()
	g := checkExtended(t, a, b)
	checkDivisorIs(t, a, b, g)
	checkLcm(t, a, b, g)
	return g
}

// P7.1, P7.2: small numbers, by the definitions of both.
func TestDivisorOfSmallNumbers(t *testing.T) {
	for a := range uint64(90) {
		for b := range uint64(90) {
			g := max(a, b)
			for d := uint64(1); d <= max(a, b); d++ {
				if a%d == 0 && b%d == 0 {
					g = d
				}
			}
			checkDivisorIs(t, nat.FromWord(a), nat.FromWord(b), nat.FromWord(g))
			multiple := uint64(0)
			for m := a; m > 0 && b > 0; m += a {
				if m%b == 0 {
					multiple = m
					break
				}
			}
			z, e := gcd.Lcm(nat.FromWord(a), nat.FromWord(b))
			oracle.Check(t, z, e, nat.FromWord(multiple), "Lcm", nat.FromWord(a), nat.FromWord(b))
			x := uint64(1)
			if b > 0 {
				for x = 0; (a*x+b-g)%b > 0; x++ {
				}
			}
			_, got, _, e := gcd.Extended(nat.FromWord(a), nat.FromWord(b))
			oracle.Check(t, got.Mag, e, nat.FromWord(x), "x of Extended", nat.FromWord(a), nat.FromWord(b))
			checkExtended(t, nat.FromWord(a), nat.FromWord(b))
		}
	}
}

// P7.1, P7.2, P7.7: numbers of all lengths, with each other.
func TestDivisor(t *testing.T) {
	m := oracle.Mixer(151)
	list := oracle.Samples(13, &m)
	for _, a := range list {
		for _, b := range list {
			checkDivisor(t, a, b)
		}
	}
}

// P7.1, P7.2, P7.7: multiples of the same number.
func TestDivisorOfMultiples(t *testing.T) {
	m := oracle.Mixer(157)
	for n := range 120 {
		g := append(m.Row(n/7), m.Next()>>(n%64))
		for range 6 {
			u, v := m.Row(int(m.Next()%9)), m.Row(int(m.Next()%20))
			a, b := times(g, u), times(g, v)
			if found := checkDivisor(t, a, b); !divides(g, found) {
				t.Errorf("the divisor of%s:%s", shown(a, b), shown(found))
			}
			checkDivisor(t, times(a, b), b)
		}
		checkDivisor(t, g, g)
		for s := range 70 {
			checkDivisorIs(t, times(g, alone(s)), times(g, alone(n)), nat.Trim(times(g, alone(min(s, n)))))
		}
	}
}

// P7.1, P7.2: numbers that have lists of quotients of all kinds, times a common divisor.
func TestDivisorByQuotients(t *testing.T) {
	m := oracle.Mixer(163)
	for n := 1; n < 300; n++ {
		p := product(randomQuotients(n, &m))
		a, b := p[0], p[2]
		checkDivisorIs(t, a, b, api.Nat{1})
		checkExtended(t, a, b)
		g := api.Nat{1 + m.Next()>>(n%64), m.Next(), 1}[:1+n%3]
		checkDivisorIs(t, times(a, g), times(b, g), nat.Trim(g))
		checkExtended(t, times(b, g), times(a, g))
	}
}

// P7.1: numbers whose highest words tell nothing of the quotient, or only nearly: equal ones, multiples with a little more or less, and remainders that are short.
func TestDivisorOfNearNumbers(t *testing.T) {
	m := oracle.Mixer(167)
	for _, n := range []int{1, 2, 3, 5, 9, 20} {
		for range 30 {
			b := api.Nat(append(m.Row(n), m.Next()>>(m.Next()%64)))
			for _, q := range []api.Nat{{1}, {2}, {3}, {1<<32 - 1}, {1 << 32}, {half}, {top}, {0, 1}, {5, 6}} {
				r := api.Nat(m.Row(int(m.Next() % uint64(n+1))))
				a := times(b, q)
				checkDivisor(t, plus(a, r), b)
				if less, e := nat.Sub(a, r); e == api.OK {
					checkDivisor(t, less, b)
				}
			}
		}
	}
}

// P7.1, P7.2, R2: the longest numbers.
func TestDivisorOfLongestNumbers(t *testing.T) {
	m := oracle.Mixer(173)
	a, b := api.Nat(m.Row(api.MaxWords)), api.Nat(m.Row(api.MaxWords))
	f, f2 := fibonacci(longestFibonacci - 1)
	g := api.Nat(m.Row(2000))
	u, v := product(slices.Repeat([]api.Nat{{3}, {top}}, 1048))[0], product(slices.Repeat([]api.Nat{{top}, {3}}, 1040))[0]
	for i, l := range [][]api.Nat{
		{a, b}, {a, nil}, {a, oracle.Zeros(api.MaxWords)}, {a, {1}}, {a, {6}}, {a, m.Row(1000)}, {ones(api.MaxWords), ones(api.MaxWords)}, {f, f2},
		{ones(api.MaxWords), ones(2048)}, {alone(api.MaxShift - 1), ones(api.MaxWords)}, {alone(api.MaxShift - 1), alone(5)}, {times(g, u), times(g, v)},
	} {
		t.Run(strconv.Itoa(i), func(t *testing.T) {
			t.Parallel()
			checkDivisor(t, l[0], l[1])
		})
	}
	checkExtended(t, f2, f)
}

// P7.1, R2: least common multiples about as long as a number may be.
func TestLcmOfLongNumbers(t *testing.T) {
	m := oracle.Mixer(179)
	long := padded(nil, 4000)
	long = append(long, m.Row(96)...)
	for _, l := range [][]api.Nat{
		{alone(api.MaxShift - 65), {top}}, {alone(api.MaxShift - 64), {top}}, {alone(api.MaxShift - 64), {1, 1}}, {alone(api.MaxShift - 1), {2}}, {alone(api.MaxShift - 1), {3}},
		{ones(2048), plus(ones(2048), api.Nat{2})}, {ones(2048), less(alone(2048 * 64))}, {ones(2048), less(less(ones(2048)))}, {long, alone(4000 * 64)}, {long, alone(4010 * 64)}, {long, long}, {long, times(alone(900), api.Nat{3})},
	} {
		g, _ := gcd.Euclid(l[0], l[1])
		checkLcm(t, l[0], l[1], g)
		checkLcm(t, l[1], l[0], g)
	}
}

// P7.1: the divisor of many, one after the other; none, and too many.
func TestAll(t *testing.T) {
	z, e := gcd.All(nil)
	oracle.Check(t, z, e, nil, "All of none")
	m := oracle.Mixer(181)
	for n := 1; n < 60; n++ {
		g := api.Nat(append(m.Row(n/9), m.Next()>>(n%64)))
		var l []api.Nat
		want := api.Nat{}
		for range n {
			x := times(g, m.Row(int(m.Next()%4)))
			l = append(l, padded(x, n%3))
			want, _ = gcd.Euclid(want, x)
			z, e := gcd.All(l)
			oracle.Check(t, z, e, want, "All", l...)
		}
	}
	for _, n := range []int{1, 2, 999, 1000} {
		z, e := gcd.All(slices.Repeat([]api.Nat{{35, 35}}, n))
		oracle.Check(t, z, e, api.Nat{35, 35}, "All of so many")
		z, e = gcd.All(append(slices.Repeat([]api.Nat{{35}}, n-1), api.Nat{21, 7}))
		want := api.Nat{7}
		if n == 1 {
			want = api.Nat{21, 7}
		}
		oracle.Check(t, z, e, want, "All of so many, the last one another")
		z, e = gcd.All(make([]api.Nat, n))
		oracle.Check(t, z, e, nil, "All of zeros")
	}
	for _, n := range []int{1001, 5000} {
		for _, x := range []api.Nat{nil, {1}, {7, 7}} {
			z, e := gcd.All(slices.Repeat([]api.Nat{x}, n))
			oracle.Fails(t, []api.Nat{z}, e, api.ErrArg, "All of too many", x)
		}
		z, e := gcd.All(append(make([]api.Nat, n), oracle.Zeros(api.MaxWords+1)))
		oracle.Fails(t, []api.Nat{z}, e, api.ErrSize, "All of too many, one too long")
	}
}
