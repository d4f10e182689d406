package modular_test

import (
	"slices"
	"testing"

	"reckoner/api"
	"reckoner/internal/oracle"
	"reckoner/modular"
	"reckoner/nat"
)

// checkRemainders checks which number leaves all of l, and the least common multiple of the moduli.
func checkRemainders(t *testing.T, l, moduli []api.Nat, x, n api.Nat) {
	t.Helper()
	got, multiple, e := modular.Remainders(l, moduli)
	check(t, got, e, x, "Remainders", append(slices.Clone(l), moduli...)...)
	check(t, multiple, e, n, "multiple of Remainders", moduli...)
}

// failsRemainders checks an error of Remainders.
func failsRemainders(t *testing.T, l, moduli []api.Nat, want api.Errno) {
	t.Helper()
	x, n, e := modular.Remainders(l, moduli)
	fails(t, []api.Nat{x, n}, e, want, "Remainders", append(slices.Clone(l), moduli...)...)
}

// numbers returns a list of numbers.
func numbers(l ...int) []api.Nat {
	var z []api.Nat
	for _, i := range l {
		z = append(z, number(i))
	}
	return z
}

// P8.5: all remainders by up to three small moduli, by search.
func TestRemaindersOfSmallModuli(t *testing.T) {
	const most = 9
	for i := range most * most * most {
		all := []int{i%most + 1, i/most%most + 1, i/most/most + 1}
		for n := 1; n <= 3; n++ {
			checkSmallModuli(t, all[:n])
		}
	}
}

// checkSmallModuli checks all remainders by some moduli.
func checkSmallModuli(t *testing.T, moduli []int) {
	t.Helper()
	product, multiple := 1, 1
	for _, n := range moduli {
		product *= n
	}
	for slices.ContainsFunc(moduli, func(n int) bool { return multiple%n > 0 }) {
		multiple++
	}
	found := map[[3]int]int{}
	for x := range multiple {
		var l [3]int
		for i, n := range moduli {
			l[i] = x % n
		}
		found[l] = x
	}
	for i := range product {
		var l [3]int
		for k, n := range moduli {
			l[k] = i % n
			i /= n
		}
		if x, is := found[l]; is {
			checkRemainders(t, numbers(l[:len(moduli)]...), numbers(moduli...), number(x), number(multiple))
		} else {
			failsRemainders(t, numbers(l[:len(moduli)]...), numbers(moduli...), api.ErrNone)
		}
	}
}

// leftBy returns what x leaves by each of the moduli.
func leftBy(x api.Nat, moduli []api.Nat) []api.Nat {
	var l []api.Nat
	for _, n := range moduli {
		l = append(l, left(x, n))
	}
	return l
}

// multipleOf returns the least common multiple of numbers that are not 0.
func multipleOf(l []api.Nat) api.Nat {
	n := api.Nat{1}
	for _, x := range l {
		q, _, _ := nat.DivMod(x, divisor(n, x))
		n = times(n, q)
	}
	return n
}

// P8.5: moduli of all lengths, with and without common divisors: what a number leaves is left by it; a remainder more or less fits just if the modulus has no common divisor with the others.
func TestRemainders(t *testing.T) {
	m := oracle.Mixer(43)
	for i := range 150 {
		g := api.Nat(m.Row(1 + i%3))
		var list []api.Nat
		for k := range 1 + i%12 {
			n := api.Nat(append(m.Row(k%4), 1+m.Next()>>(m.Next()%64)))
			if (i+k)%3 == 0 {
				n = times(n, g)
			}
			list = append(list, n)
		}
		multiple := multipleOf(list)
		x := left(m.Row(1+len(multiple)), multiple)
		l := leftBy(x, list)
		checkRemainders(t, l, list, x, multiple)
		at := int(m.Next() % uint64(len(l)))
		if nat.Len(list[at]) < 2 { // 1 has only one residue
			continue
		}
		l[at] = left(plus(l[at], api.Nat{1}), list[at])
		others := multipleOf(slices.Delete(slices.Clone(list), at, at+1))
		if nat.Len(divisor(others, list[at])) > 1 {
			failsRemainders(t, l, list, api.ErrNone)
			continue
		}
		got, n, e := modular.Remainders(l, list)
		if e != api.OK || nat.Cmp(n, multiple) != 0 || nat.Cmp(got, n) >= 0 || !oracle.Same(leftBy(got, list), l) {
			t.Errorf("Remainders%s: error %d,%s", shown(append(l, list...)...), e, shown(got, n))
		}
	}
}

// P8.5: as many and as long moduli as there may be.
func TestRemaindersOfLongModuli(t *testing.T) {
	m := oracle.Mixer(47)
	var list []api.Nat
	multiple := api.Nat{1}
	for len(list) < 50 {
		n := api.Nat(m.Row(8))
		n[7] |= half
		if nat.Len(divisor(n, multiple)) == 1 {
			list = append(list, n)
			multiple = times(multiple, n)
		}
	}
	for _, x := range []api.Nat{nil, {1}, less(multiple), left(m.Row(400), multiple), m.Row(200)} {
		l := leftBy(x, list)
		checkRemainders(t, l, list, x, multiple)
		for i := range l {
			l[i], list[i] = padded(l[i], i), padded(list[i], 50-i)
		}
		checkRemainders(t, l, list, x, multiple)
		for i := range list {
			list[i] = list[i][:8]
		}
	}
	same := slices.Repeat([]api.Nat{ones(8)}, 50)
	checkRemainders(t, slices.Repeat([]api.Nat{{7, 7}}, 50), same, api.Nat{7, 7}, ones(8))
	failsRemainders(t, append(slices.Repeat([]api.Nat{{7, 7}}, 49), api.Nat{7, 8}), same, api.ErrNone)
	failsRemainders(t, append([]api.Nat{nil}, slices.Repeat([]api.Nat{{7, 7}}, 49)...), same, api.ErrNone)
	checkRemainders(t, make([]api.Nat, 50), slices.Repeat([]api.Nat{{1}}, 50), nil, api.Nat{1})
}

// P8.5, R1, R2: lists that are not as they must be.
func TestErrorsOfRemainders(t *testing.T) {
	tooLong := zeros(api.MaxWords + 1)
	for _, c := range []struct {
		l, moduli []api.Nat
		want      api.Errno
	}{
		{nil, nil, api.ErrArg}, {numbers(1), nil, api.ErrArg}, {nil, numbers(5), api.ErrArg}, {numbers(1, 1), numbers(5), api.ErrArg}, {numbers(1), numbers(5, 7), api.ErrArg}, {numbers(1, 2, 3, 4, 5), numbers(2, 3, 5, 7), api.ErrArg},
		{numbers(0), numbers(0), api.ErrArg}, {numbers(1, 0), numbers(5, 0), api.ErrArg}, {numbers(0, 1), []api.Nat{zeros(8), {5}}, api.ErrArg},
		{numbers(5), numbers(5), api.ErrArg}, {numbers(6), numbers(5), api.ErrArg}, {numbers(1, 7), numbers(5, 7), api.ErrArg}, {numbers(1), numbers(1), api.ErrArg}, {[]api.Nat{{0, 1}}, numbers(5), api.ErrArg},
		{numbers(1), []api.Nat{ones(9)}, api.ErrArg}, {numbers(1, 1), []api.Nat{{5}, alone(512)}, api.ErrArg}, {numbers(1), []api.Nat{ones(api.MaxWords)}, api.ErrArg},
		{numbers(1, 2, 9), numbers(4, 6, 9), api.ErrArg}, {numbers(1, 2, 0), numbers(4, 6, 0), api.ErrArg}, // beside remainders that do not fit
		{make([]api.Nat, 51), slices.Repeat(numbers(7), 51), api.ErrArg}, {make([]api.Nat, 50), slices.Repeat(numbers(7), 51), api.ErrArg}, {make([]api.Nat, 51), slices.Repeat(numbers(7), 50), api.ErrArg}, {make([]api.Nat, 5000), slices.Repeat(numbers(7), 5000), api.ErrArg},
		{[]api.Nat{tooLong}, nil, api.ErrSize}, {nil, []api.Nat{tooLong}, api.ErrSize}, {append(make([]api.Nat, 60), tooLong), numbers(0), api.ErrSize}, {numbers(9), append(numbers(0), tooLong), api.ErrSize}, {[]api.Nat{tooLong, {1}}, numbers(2, 0), api.ErrSize},
		{numbers(1, 2), numbers(4, 6), api.ErrNone}, {numbers(0, 1, 0), numbers(7, 2, 2), api.ErrNone}, {numbers(0, 0, 1, 0), numbers(2, 3, 6, 5), api.ErrNone},
	} {
		failsRemainders(t, c.l, c.moduli, c.want)
	}
}
