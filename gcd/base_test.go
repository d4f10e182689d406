package gcd_test

import (
	"slices"
	"testing"

	"reckoner/api"
	"reckoner/gcd"
	"reckoner/internal/oracle"
	"reckoner/nat"
)

// checkCoprime checks whether the divisor of any two numbers of a list is 1.
func checkCoprime(t *testing.T, l []api.Nat, want bool) {
	t.Helper()
	if got, e := gcd.Coprime(l); e != api.OK || got != want {
		t.Errorf("Coprime%s: error %d, %v", shown(l...), e, got)
	}
}

// small returns the divisor of two small numbers.
func small(a, b uint64) uint64 {
	for b > 0 {
		a, b = b, a%b
	}
	return a
}

// P7.5: all lists of up to four small numbers.
func TestCoprimeOfSmallNumbers(t *testing.T) {
	checkCoprime(t, nil, true)
	const end = 13
	for i := range end * end * end * end {
		l := []uint64{uint64(i % end), uint64(i / end % end), uint64(i / end / end % end), uint64(i / end / end / end)}
		for n := 1; n <= 4; n++ {
			want := true
			for k, x := range l[:n] {
				for _, y := range l[:k] {
					want = want && small(x, y) == 1
				}
			}
			checkCoprime(t, words(l[:n]...), want)
		}
	}
}

// primes returns the first n primes.
func primes(n int) []uint64 {
	var l []uint64
	for p := uint64(2); len(l) < n; p++ {
		if !slices.ContainsFunc(l, func(q uint64) bool { return p%q == 0 }) {
			l = append(l, p)
		}
	}
	return l
}

// P7.5: as many numbers as there may be, powers of different primes, or two of them of the same one; and too many.
func TestCoprimeOfManyNumbers(t *testing.T) {
	l := make([]api.Nat, 100)
	for i, p := range primes(100) {
		l[i] = oracle.Pow(api.Nat{p}, 1+i%30)
	}
	checkCoprime(t, l, true)
	for _, c := range [][2]int{{0, 99}, {0, 1}, {98, 99}, {50, 7}, {13, 64}} {
		with := slices.Clone(l)
		with[c[0]] = times(l[c[0]], l[c[1]])
		checkCoprime(t, with, false)
	}
	checkCoprime(t, slices.Repeat([]api.Nat{{1, 0}}, 100), true)
	checkCoprime(t, append(slices.Repeat([]api.Nat{{1}}, 99), nil), true)
	checkCoprime(t, append(slices.Repeat([]api.Nat{{1}}, 98), nil, api.Nat{0}), false)
	for _, x := range []api.Nat{nil, {1}, {6}} {
		for _, n := range []int{101, 5000} {
			is, e := gcd.Coprime(slices.Repeat([]api.Nat{x}, n))
			oracle.Fails(t, []api.Nat{oracle.Truth(is)}, e, api.ErrArg, "Coprime of too many", x)
		}
	}
	is, e := gcd.Coprime(append(make([]api.Nat, 101), oracle.Zeros(api.MaxWords+1)))
	oracle.Fails(t, []api.Nat{oracle.Truth(is)}, e, api.ErrSize, "Coprime of too many, one too long")
}

// fermat returns Fermat's numbers, no two of which have a common divisor: 2 to the power of 1, 2, 4, and so on, and 1.
func fermat() []api.Nat {
	var l []api.Nat
	for s := 1; s < api.MaxShift; s *= 2 {
		l = append(l, plus(alone(s), api.Nat{1}))
	}
	return l
}

// P7.5: long numbers, without a common divisor and with one.
func TestCoprimeOfLongNumbers(t *testing.T) {
	l := fermat()
	checkCoprime(t, l, true)
	checkCoprime(t, append(l, ones(1)), false)
	checkCoprime(t, append(l, ones(api.MaxWords)), false)
	checkCoprime(t, append(l, alone(api.MaxShift-1)), true)
	checkCoprime(t, []api.Nat{{1}, ones(api.MaxWords)}, true)
	checkCoprime(t, []api.Nat{nil, ones(api.MaxWords)}, false)
}

// leftOf returns what is left of a list in the chapter's own words, pairs being taken as the mixer says: as long as two different ones have a divisor, it and what it leaves of both are put in place of both, 1 and what comes twice being left out.
func leftOf[T comparable](l []T, one T, split func(a, b T) [3]T, m *oracle.Mixer) []T {
	set := func(l []T) []T {
		var z []T
		for _, x := range l {
			if x != one && !slices.Contains(z, x) {
				z = append(z, x)
			}
		}
		return z
	}
	l = set(l)
	for {
		var pairs [][2]int
		for i := range l {
			for j := range i {
				if split(l[i], l[j])[0] != one {
					pairs = append(pairs, [2]int{i, j})
				}
			}
		}
		if len(pairs) == 0 {
			return l
		}
		p := pairs[m.Next()%uint64(len(pairs))]
		parts := split(l[p[0]], l[p[1]])
		l = slices.Delete(slices.Delete(l, p[0], p[0]+1), p[1], p[1]+1)
		l = set(append(l, parts[:]...))
	}
}

// checkBase checks the base of a list.
func checkBase(t *testing.T, l, want []api.Nat) {
	t.Helper()
	slices.SortFunc(want, nat.Cmp)
	got, e := gcd.Base(l)
	checkList(t, got, e, want, "Base", l...)
}

// P7.5: lists of small numbers.
func TestBaseOfSmallNumbers(t *testing.T) {
	m := oracle.Mixer(233)
	split := func(a, b uint64) [3]uint64 {
		g := small(a, b)
		return [3]uint64{g, a / g, b / g}
	}
	checkBase(t, nil, nil)
	for a := uint64(1); a < 70; a++ {
		checkBase(t, words(a), words(leftOf([]uint64{a}, 1, split, &m)...))
		for b := uint64(1); b < 70; b++ {
			checkBase(t, words(a, b), words(leftOf([]uint64{a, b}, 1, split, &m)...))
		}
	}
	for i := range 3000 {
		var l []uint64
		for range 1 + i%20 {
			x := uint64(1)
			for range m.Next() % 12 {
				x *= []uint64{2, 3, 5, 7, 11, 4, 6, 10}[m.Next()%8]
			}
			l = append(l, x)
		}
		checkBase(t, words(l...), words(leftOf(l, 1, split, &m)...))
	}
}

// powers are exponents of some numbers without common divisors.
type powers [6]int

// split returns the powers that p and q have in common, and what they leave of both.
func (p powers) split(q powers) [3]powers {
	var z [3]powers
	for i := range p {
		both := min(p[i], q[i])
		z[0][i], z[1][i], z[2][i] = both, p[i]-both, q[i]-both
	}
	return z
}

// number returns the product of the powers of these numbers.
func (p powers) number(l [6]api.Nat) api.Nat {
	z := api.Nat{1}
	for i, x := range l {
		z = times(z, oracle.Pow(x, p[i]))
	}
	return z
}

// numbersOf returns the numbers of a list of powers.
func numbersOf(list []powers, l [6]api.Nat) []api.Nat {
	var z []api.Nat
	for _, p := range list {
		z = append(z, p.number(l))
	}
	return z
}

// P7.5: lists of products of powers, of short and of long numbers.
func TestBaseOfPowers(t *testing.T) {
	m := oracle.Mixer(239)
	long := fermat()
	for i := range 400 {
		var l []powers
		for range 1 + i%20 {
			var p powers
			for k := range p {
				if m.Next()%3 == 0 {
					p[k] = int(m.Next() % uint64(1+i%23))
				}
			}
			l = append(l, p)
		}
		want := leftOf(l, powers{}, powers.split, &m)
		for _, some := range [][6]api.Nat{{{2}, {3}, {5}, {7}, {11}, {13}}, {long[9], long[6], {2}, long[0], long[5], long[7]}}[:1+max(0, 1-i%8)] {
			given := numbersOf(l, some)
			given[0] = padded(given[0], i%3)
			checkBase(t, given, numbersOf(want, some))
		}
	}
}

// P7.5: powers with great exponents: what is left is the power with the divisor of the exponents.
func TestBaseOfGreatPowers(t *testing.T) {
	two := func(exponents ...int) []api.Nat {
		var l []api.Nat
		for _, k := range exponents {
			l = append(l, alone(k))
		}
		return l
	}
	checkBase(t, two(api.MaxShift-1, 1), two(1))
	checkBase(t, two(1, api.MaxShift-1), two(1))
	checkBase(t, two(api.MaxShift-1, api.MaxShift-2), two(1))
	checkBase(t, two(196418, 121393), two(1))
	checkBase(t, two(196416, 121392, 72, 240000), two(24))
	checkBase(t, two(7, 7*37449), two(7))
	six := func(k int) api.Nat { return oracle.Pow(api.Nat{6}, k) }
	checkBase(t, []api.Nat{six(60000), six(46000)}, []api.Nat{six(2000)})
	three := func(k int) api.Nat { return oracle.Pow(api.Nat{3}, k) }
	checkBase(t, []api.Nat{six(100), alone(99)}, []api.Nat{{2}, three(100)})
	checkBase(t, []api.Nat{times(six(30000), api.Nat{5}), alone(12)}, []api.Nat{times(three(30000), api.Nat{5}), alone(12)})
	checkBase(t, []api.Nat{times(alone(30000), three(20000)), times(alone(12), three(8)), times(alone(36), three(9))}, []api.Nat{alone(12), {3}})
}

// P7.5, R2: long numbers: without common divisors, and products of them.
func TestBaseOfLongNumbers(t *testing.T) {
	l := fermat()
	checkBase(t, l, slices.Clone(l))
	checkBase(t, append(l[:16:16], ones(1024)), slices.Clone(l[:16])) // which is the product of them all
	a, b, c := l[15], less(alone(1<<15)), less(alone(64001))          // a b is 2^65536 - 1
	checkCoprime(t, []api.Nat{a, b, c}, true)
	checkBase(t, []api.Nat{times(times(a, b), c), times(a, c), times(times(b, b), b)}, []api.Nat{b, times(a, c)})
	checkBase(t, []api.Nat{times(times(a, b), c), times(a, a), times(times(b, b), b)}, []api.Nat{a, b, c})
	checkBase(t, []api.Nat{ones(api.MaxWords), ones(api.MaxWords)}, []api.Nat{ones(api.MaxWords)})
	checkBase(t, []api.Nat{ones(api.MaxWords), ones(api.MaxWords / 2)}, []api.Nat{ones(api.MaxWords / 2), plus(alone(api.MaxShift/2), api.Nat{1})})
}

// P7.5: as many numbers as there may be, that are taken apart into many; too many, and 0.
func TestBaseOfManyNumbers(t *testing.T) {
	list := primes(700)
	l := slices.Repeat([]api.Nat{{1}}, 20)
	var want []api.Nat
	for i, p := range list {
		want = append(want, api.Nat{p})
		for k := range l {
			if (i+1)>>(k%10)&1 == 1 {
				l[k] = times(l[k], api.Nat{p})
			}
		}
	}
	checkBase(t, l, want)
	checkBase(t, slices.Repeat([]api.Nat{{1, 0}}, 20), nil)
	checkBase(t, slices.Repeat([]api.Nat{{12, 0}}, 20), words(12))
	for _, c := range []struct {
		l    []api.Nat
		want api.Errno
	}{
		{slices.Repeat([]api.Nat{{1}}, 21), api.ErrArg}, {slices.Repeat([]api.Nat{{6}}, 3000), api.ErrArg}, {make([]api.Nat, 21), api.ErrArg},
		{[]api.Nat{nil}, api.ErrArg}, {[]api.Nat{{5}, {0, 0}}, api.ErrArg}, {[]api.Nat{oracle.Zeros(api.MaxWords), {5}, {10}}, api.ErrArg}, {append(slices.Repeat([]api.Nat{{6}}, 19), nil), api.ErrArg},
		{append(make([]api.Nat, 21), oracle.Zeros(api.MaxWords+1)), api.ErrSize}, {[]api.Nat{nil, ones(api.MaxWords + 1)}, api.ErrSize},
	} {
		got, e := gcd.Base(c.l)
		oracle.Fails(t, got, e, c.want, "Base", c.l[:1]...)
		if len(got) > 0 {
			t.Errorf("Base%s: %d numbers", shown(c.l[0]), len(got))
		}
	}
}
