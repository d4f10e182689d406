package root_test

import (
	"math"
	"testing"

	"reckoner/api"
	"reckoner/internal/oracle"
	"reckoner/nat"
	"reckoner/root"
)

// checkRoot checks the k-th root of x by its definition.
func checkRoot(t *testing.T, x api.Nat, k int) {
	t.Helper()
	s, rest, e := root.Root(x, k)
	if e != api.OK || !isRoot(s, x, k) {
		t.Errorf("Root%s by %d: error %d,%s", shown(x), k, e, shown(s))
		return
	}
	check(t, rest, e, minus(x, powerUpTo(s, k)), "rest of Root", x)
}

// powerUpTo returns s^k, which is not too long.
func powerUpTo(s api.Nat, k int) api.Nat {
	if nat.Len(s) < 2 {
		k = 1
	}
	return pow(s, k)
}

// minus returns x - y.
func minus(x, y api.Nat) api.Nat {
	z, _ := nat.Sub(x, y)
	return z
}

// exponents are exponents of roots: small ones, and such that are tried with numbers of all lengths.
func exponents() []int {
	return []int{1, 2, 3, 4, 5, 6, 7, 8, 9, 10, 13, 16, 31, 32, 33, 63, 64, 65, 100, 127, 300, 1000, 65536, 262144, 999999, 1000000}
}

// wrongExponents are exponents that no root has.
func wrongExponents() []int {
	return []int{0, -1, -2, 1000001, 1 << 31, math.MinInt, math.MaxInt}
}

// P6.2: all small numbers.
func TestRootOfSmallNumbers(t *testing.T) {
	for x := range uint64(1100) {
		for k := 1; k < 13; k++ {
			checkRoot(t, api.Nat{x}, k)
		}
	}
}

// P6.2: numbers of all lengths, by all kinds of exponents.
func TestRoot(t *testing.T) {
	for i, x := range append(numbers(), mixed(1, 400)...) {
		for j, k := range exponents() {
			if i < 100 || (i+j)%5 == 0 {
				checkRoot(t, x, k)
			}
		}
		checkRoot(t, x, nat.Len(x)/2+1)
		checkRoot(t, x, max(1, nat.Len(x)-1))
		checkRoot(t, x, max(1, nat.Len(x)))
		checkRoot(t, x, nat.Len(x)+1)
	}
	for i, x := range longNumbers() {
		for j, k := range exponents() {
			if (i+j)%4 == 0 {
				checkRoot(t, x, k)
			}
		}
	}
}

// P6.2: powers and the numbers beside them, and the last number before the next power.
func TestRootOfPowers(t *testing.T) {
	m := oracle.Mixer(127)
	for _, k := range []int{2, 3, 4, 5, 7, 11, 17, 40, 111} {
		for n := 1; n < 100; n += 1 + k/8 {
			list := beside(alone(n))
			list = append(list, api.Nat{1 + m.Next()>>(n%63)}, append(m.Row(n/64), 1+m.Next()>>(n%60)), ones(1+n/64))
			for _, s := range list {
				for _, x := range append(beside(pow(s, k)), less(pow(next(s), k))) {
					checkRoot(t, x, k)
				}
				got, rest, e := root.Root(pow(s, k), k)
				check(t, got, e, nat.Trim(s), "Root", pow(s, k))
				check(t, rest, e, nil, "rest of Root", pow(s, k))
			}
		}
	}
}

// P6.2, R2: the longest numbers, by exponents of all sizes.
func TestRootOfLongestNumbers(t *testing.T) {
	list := longest()
	for i, k := range []int{1, 2, 3, 4, 7, 10, 50, 100, 700, 4095, 4096, 9000, 20000, 65536, 87381, 131071, 131072, 262143, 262144, 1000000} {
		checkRoot(t, list[i%10], k)
		checkRoot(t, list[9], k)
		checkRoot(t, list[i%2+10], k)
	}
	for _, k := range []int{3, 16, 4096, 131072} {
		s := ones(api.MaxWords / k)
		if k > api.MaxWords {
			s = api.Nat{3}
		}
		checkRoot(t, pow(s, k), k)
		checkRoot(t, less(pow(s, k)), k)
	}
}

// P6.7: roots of products of powers.
func TestRootOfProducts(t *testing.T) {
	m := oracle.Mixer(131)
	for _, k := range []int{1, 2, 3, 5, 12} {
		for n := range 9 {
			a, b, c := api.Nat(m.Row(n)), api.Nat{m.Next()}, api.Nat(m.Row(2))
			product := times(times(a, b), c)
			x := times(times(pow(a, k), pow(b, k)), pow(c, k))
			got, rest, e := root.Root(x, k)
			check(t, got, e, product, "Root", x)
			check(t, rest, e, nil, "rest of Root", x)
			x = plus(x, pow(product, k-1))
			if k == 2 && nat.Len(product) > 0 {
				got, rest, e = root.Root(x, k)
				check(t, got, e, product, "Root", x)
				check(t, rest, e, product, "rest of Root", x)
			}
		}
	}
}

// P6.2: exponents that are wrong, for all numbers; after those that are too long.
func TestRootByWrongExponents(t *testing.T) {
	for _, k := range wrongExponents() {
		for _, x := range []api.Nat{nil, {0}, {1}, {99}, ones(api.MaxWords), alone(api.MaxShift - 1)} {
			s, rest, e := root.Root(x, k)
			fails(t, []api.Nat{s, rest}, e, api.ErrArg, "Root", x)
			s, e = root.Nearest(x, k)
			fails(t, []api.Nat{s}, e, api.ErrArg, "Nearest", x)
		}
		s, rest, e := root.Root(zeros(api.MaxWords+1), k)
		fails(t, []api.Nat{s, rest}, e, api.ErrSize, "Root of too long a number")
		s, e = root.Nearest(zeros(api.MaxWords+1), k)
		fails(t, []api.Nat{s}, e, api.ErrSize, "Nearest of too long a number")
	}
}

// checkNearest checks that the real k-th root of x lies between n - 1/2 and n + 1/2: that of 2^k x between 2 n - 1 and 2 n + 1; or that it is too long.
func checkNearest(t *testing.T, x api.Nat, k int) {
	t.Helper()
	got, e := root.Nearest(x, k)
	if length := nat.Len(x); length > 0 && k > 1 && length+k > api.MaxShift {
		fails(t, []api.Nat{got}, e, api.ErrSize, "Nearest", x)
		return
	}
	if nat.Len(x) == 0 || k == 1 {
		check(t, got, e, nat.Trim(x), "Nearest", x)
		return
	}
	double := times(x, alone(k))
	twice := plus(got, got)
	right := len(got) > 0 && powerAndNumber(less(twice), k, double) < 0 && powerAndNumber(next(twice), k, double) > 0
	if e != api.OK || !right || got[len(got)-1] == 0 {
		t.Errorf("Nearest%s by %d: error %d,%s", shown(x), k, e, shown(got))
	}
}

// P6.2: numbers that are known, and all small ones.
func TestNearestOfSmallNumbers(t *testing.T) {
	for _, c := range []struct {
		x    uint64
		k    int
		want uint64
	}{
		{7, 2, 3}, {6, 2, 2}, {2, 2, 1}, {3, 2, 2}, {12, 2, 3}, {13, 2, 4}, {3, 3, 1}, {4, 3, 2}, {15, 3, 2}, {16, 3, 3}, {1, 1000, 1}, {57, 10, 1}, {58, 10, 2}, {0, 5, 0}, {9, 1, 9},
	} {
		got, e := root.Nearest(api.Nat{c.x}, c.k)
		check(t, got, e, nat.FromWord(c.want), "Nearest", api.Nat{c.x})
	}
	for x := range uint64(700) {
		for k := 1; k < 13; k++ {
			checkNearest(t, api.Nat{x}, k)
		}
	}
}

// P6.2: numbers of all lengths, and those beside the middle between two powers, which are rounded to different sides.
func TestNearest(t *testing.T) {
	for i, x := range append(numbers(), mixed(1, 300)...) {
		for j, k := range exponents() {
			if i < 40 || (i+j)%7 == 0 {
				checkNearest(t, x, k)
			}
		}
		for _, k := range []int{2, 3, 4, 7} {
			middle, _ := nat.Right(pow(next(plus(x, x)), k), k)
			s, e := root.Nearest(middle, k)
			check(t, s, e, nat.Trim(x), "Nearest", middle)
			s, e = root.Nearest(next(middle), k)
			check(t, s, e, next(x), "Nearest", next(middle))
			checkNearest(t, pow(x, k), k)
		}
	}
}

// P6.2: the longest numbers of which the power of 2 times the number is not too long, and those of which it is.
func TestNearestOfLongestNumbers(t *testing.T) {
	for _, k := range []int{2, 3, 5, 63, 64, 65, 1000, 131072, 262000, 262142} {
		fit := api.MaxShift - k
		for _, x := range []api.Nat{less(alone(fit)), alone(fit - 1), mixed(fit, fit)[0]} {
			checkNearest(t, x, k)
			if _, e := root.Nearest(x, k); e != api.OK {
				t.Errorf("Nearest of %d bits by %d: error %d", fit, k, e)
			}
		}
		for _, x := range []api.Nat{alone(fit), next(alone(fit)), append(alone(fit), zeros(k/64)...)} {
			got, e := root.Nearest(x, k)
			fails(t, []api.Nat{got}, e, api.ErrSize, "Nearest", x)
		}
	}
	for _, x := range longest() {
		for _, k := range []int{1, 2, 262143, 262144, 1000000} {
			checkNearest(t, x, k)
		}
	}
	for _, x := range []api.Nat{nil, {1}, {2}, {3}} {
		for _, k := range []int{262141, 262142, 262143, 262144, 999999, 1000000} {
			checkNearest(t, x, k)
		}
	}
}

// checkRatio checks that 2^bits times the k-th root of x / y lies between the result and the number after it; or that it is too long.
func checkRatio(t *testing.T, x, y api.Nat, k, bits int) {
	t.Helper()
	got, e := root.Ratio(x, y, k, bits)
	if length := nat.Len(x); length > 0 && length+k*bits > api.MaxShift {
		fails(t, []api.Nat{got}, e, api.ErrSize, "Ratio", x, y)
		return
	}
	whole := times(x, alone(k*bits))
	below, above := times(powerUpTo(got, k), y), times(powerUpTo(next(got), k), y)
	if e != api.OK || nat.Cmp(below, whole) > 0 || nat.Cmp(above, whole) <= 0 || len(got) > 0 && got[len(got)-1] == 0 {
		t.Errorf("Ratio%s by %d with %d bits: error %d,%s", shown(x, y), k, bits, e, shown(got))
	}
}

// P6.2: numbers that are known, and all small ones.
func TestRatioOfSmallNumbers(t *testing.T) {
	for _, c := range []struct {
		x, y    uint64
		k, bits int
		want    uint64
	}{
		{2, 1, 2, 10, 1448}, {1, 4, 2, 0, 0}, {1, 4, 2, 1, 1}, {9, 4, 2, 0, 1}, {9, 4, 2, 1, 3}, {9, 4, 2, 2, 6}, {1, 3, 1, 2, 1}, {1, 3, 1, 8, 85}, {8, 27, 3, 10, 682}, {5, 1, 1, 3, 40}, {0, 7, 9, 9, 0}, {1, 1, 100, 30, 1 << 30},
	} {
		got, e := root.Ratio(api.Nat{c.x}, api.Nat{c.y}, c.k, c.bits)
		check(t, got, e, nat.FromWord(c.want), "Ratio", api.Nat{c.x}, api.Nat{c.y})
	}
	for x := range uint64(30) {
		for y := uint64(1); y < 20; y++ {
			for k := 1; k < 7; k++ {
				for bits := range 5 {
					checkRatio(t, api.Nat{x}, api.Nat{y}, k, bits)
				}
			}
		}
	}
}

// P6.2: numbers of all lengths, also such whose root is a number of these bits.
func TestRatio(t *testing.T) {
	list := append(numbers(), mixed(1, 130)...)
	for i, x := range list {
		for j, y := range append(list[1:3:3], list[(i*7)%60+3], list[(i*11+5)%200], list[i]) {
			if nat.Len(y) == 0 {
				continue
			}
			for l, k := range []int{1, 2, 3, 5, 29, 100} {
				checkRatio(t, x, y, k, []int{0, 1, 7, 64, 100}[(i+j+l)%5])
			}
			checkRatio(t, pow(x, 3), pow(y, 3), 3, i%9)
		}
	}
}

// P6.2: the longest numbers of which the power of 2 times the number is not too long, and those of which it is.
func TestRatioOfLongestNumbers(t *testing.T) {
	for i, c := range [][2]int{{1, 1}, {1, 10000}, {2, 10000}, {2, 70}, {3, 64}, {26, 10000}, {100, 2621}, {100, 1}, {7, 1234}, {99, 2600}} {
		k, bits := c[0], c[1]
		fit := api.MaxShift - k*bits
		y := []api.Nat{{1}, {3}, {top, top}, mixed(2000, 2000)[0], ones(api.MaxWords)}[i%5]
		for _, x := range []api.Nat{less(alone(fit)), alone(fit - 1)} {
			checkRatio(t, x, y, k, bits)
			if _, e := root.Ratio(x, y, k, bits); e != api.OK {
				t.Errorf("Ratio of %d bits by %d with %d bits: error %d", fit, k, bits, e)
			}
		}
		for _, x := range []api.Nat{alone(fit), append(next(alone(fit)), zeros(k*bits/64)...), ones(api.MaxWords)} {
			got, e := root.Ratio(x, y, k, bits)
			fails(t, []api.Nat{got}, e, api.ErrSize, "Ratio", x, y)
		}
	}
	for _, k := range []int{1, 2, 3, 100} {
		checkRatio(t, ones(api.MaxWords), ones(api.MaxWords), k, 0)
		checkRatio(t, ones(api.MaxWords), api.Nat{1}, k, 0)
		checkRatio(t, zeros(api.MaxWords), api.Nat{1}, k, 10000)
		got, e := root.Ratio(nil, ones(api.MaxWords), 100, 10000)
		check(t, got, e, nil, "Ratio of 0")
		got, e = root.Ratio(api.Nat{1}, ones(api.MaxWords), 100, 10000)
		fails(t, []api.Nat{got}, e, api.ErrSize, "Ratio of 1")
	}
}

// P6.2, R1, R2: wrong arguments come before a y that is 0, and this before a result that is too long.
func TestRatioOfWrongArguments(t *testing.T) {
	long := zeros(api.MaxWords + 1)
	for _, x := range []api.Nat{nil, {0}, {1}, ones(api.MaxWords)} {
		for _, y := range []api.Nat{nil, {0, 0}, {1}, {4}, ones(api.MaxWords)} {
			for _, c := range [][2]int{{0, 5}, {-1, 5}, {101, 5}, {math.MinInt, 5}, {math.MaxInt, 5}, {2, -1}, {2, 10001}, {2, math.MinInt}, {2, math.MaxInt}, {0, -1}, {math.MaxInt, math.MaxInt}} {
				got, e := root.Ratio(x, y, c[0], c[1])
				fails(t, []api.Nat{got}, e, api.ErrArg, "Ratio", x, y)
				got, e = root.Ratio(long, y, c[0], c[1])
				fails(t, []api.Nat{got}, e, api.ErrSize, "Ratio", long, y)
			}
		}
		for _, c := range [][2]int{{1, 0}, {1, 10000}, {100, 0}, {100, 10000}} {
			for _, y := range []api.Nat{nil, {0}, zeros(api.MaxWords)} {
				got, e := root.Ratio(x, y, c[0], c[1])
				fails(t, []api.Nat{got}, e, api.ErrZero, "Ratio", x, y)
			}
			got, e := root.Ratio(x, long, c[0], c[1])
			fails(t, []api.Nat{got}, e, api.ErrSize, "Ratio", x, long)
		}
	}
}
