package root_test

import (
	"testing"

	"reckoner/api"
	"reckoner/internal/oracle"
	"reckoner/nat"
	"reckoner/root"
)

// checkPower checks that Power of x is b and k.
func checkPower(t *testing.T, x, b api.Nat, k int) {
	t.Helper()
	got, n, e := root.Power(x)
	check(t, got, e, b, "Power", x)
	if n != k {
		t.Errorf("Power%s: exponent %d, want %d", shown(x), n, k)
	}
}

// P6.3: all small numbers, by a table of all powers.
func TestPowerOfSmallNumbers(t *testing.T) {
	const end = 40000
	var bases, exponents [end]int
	for b := end - 1; b > 1; b-- { // so that the least base is written last
		for x, k := b, 1; x < end; x, k = x*b, k+1 {
			bases[x], exponents[x] = b, k
		}
	}
	for x := 2; x < end; x++ {
		checkPower(t, api.Nat{uint64(x)}, api.Nat{uint64(bases[x])}, exponents[x])
	}
}

// P6.3: numbers less than 2.
func TestPowerOfNone(t *testing.T) {
	for _, x := range []api.Nat{nil, {0}, {1}, {1, 0}, zeros(api.MaxWords), append(api.Nat{1}, zeros(api.MaxWords-1)...)} {
		b, k, e := root.Power(x)
		fails(t, []api.Nat{b, nat.FromWord(uint64(k))}, e, api.ErrArg, "Power", x)
	}
}

// P6.3, P6.6: powers of numbers that are none, with exponents of all kinds.
func TestPowerOfPowers(t *testing.T) {
	for i, w := range []uint64{2, 3, 5, 6, 7, 10, 12, 15, 24, 48, 72, 97, 255, 257, 2310, 65535, 65537, 1<<32 + 1, 1<<61 - 1, top, half + 1, 3 << 40, 3 << 41, 1000000007} {
		for _, k := range []int{1, 2, 3, 4, 5, 6, 7, 8, 9, 11, 12, 16, 18, 25, 27, 30, 31, 36, 49, 62, 64, 77, 81, 97, 100, 121, 128, 143, 169, 210, 256, 289, 343, 361, 529, 641} {
			if i < 8 || k < 100 {
				checkPower(t, pow(api.Nat{w}, k), api.Nat{w}, k)
			}
		}
	}
	checkPower(t, append(pow(api.Nat{6}, 100), 0, 0), api.Nat{6}, 100)
}

// P6.6: powers of numbers of all lengths, by what the number itself is.
func TestPowerOfLongerPowers(t *testing.T) {
	for i, x := range append(numbers(), append(mixed(2, 150), longNumbers()[:40]...)...) {
		if nat.Len(x) < 2 {
			continue
		}
		b, k, e := root.Power(x)
		if e != api.OK || k < 1 || nat.Cmp(pow(b, k), x) != 0 {
			t.Errorf("Power%s: error %d,%s, %d", shown(x), e, shown(b), k)
		}
		checkPower(t, b, b, 1)
		for _, n := range []int{2, 3, 5, 6, 7, 13} {
			if n < 4 || i%n == 0 {
				checkPower(t, pow(x, n), b, k*n)
			}
		}
	}
}

// P6.3: numbers beside powers are no powers themselves, as no two powers but 8 and 9 are beside one another (Mihailescu's theorem).
func TestPowerBesidePowers(t *testing.T) {
	m := oracle.Mixer(137)
	for n := 2; n < 200; n++ {
		s := append(m.Row(n/90), 2+m.Next()>>(n%62))
		for _, k := range []int{2, 3, 4, 5, 7, 10, 29} {
			for _, x := range []api.Nat{less(pow(s, k)), next(pow(s, k))} {
				checkPower(t, x, x, 1)
			}
		}
		if n > 3 {
			checkPower(t, less(alone(n)), less(alone(n)), 1)
			checkPower(t, next(alone(n)), next(alone(n)), 1)
		}
	}
}

// P6.3: numbers that leave what a power leaves, by 2^64 and by the primes below 500, and are none.
func TestPowerOfOthers(t *testing.T) {
	all := api.Nat{0, 1}
	for p := range uint64(500) {
		prime := p > 1
		for d := uint64(2); d*d <= p; d++ {
			prime = prime && p%d > 0
		}
		if prime {
			all = times(all, api.Nat{p})
		}
	}
	for _, k := range []int{2, 3, 5, 7, 11, 13} {
		for _, s := range []api.Nat{{3}, {top}, {5, 7}, {12}, mixed(300, 300)[0]} {
			for _, f := range []uint64{1, 2, 64, 1000000007} {
				x := plus(pow(s, k), times(all, api.Nat{f}))
				b, n, e := root.Power(x)
				for p := 2; p <= 20; p++ {
					r, rest, _ := root.Root(x, p)
					if want := len(rest) == 0; e != api.OK || want != (n%p == 0) {
						t.Errorf("Power%s: error %d,%s, %d, but its root by %d is%s", shown(x), e, shown(b), n, p, shown(r))
					}
				}
			}
		}
	}
}

// P6.3, R2: the longest numbers: powers of small and of long numbers, and numbers beside them.
func TestPowerOfLongestNumbers(t *testing.T) {
	checkPower(t, alone(api.MaxShift-1), api.Nat{2}, api.MaxShift-1)
	checkPower(t, alone(api.MaxShift-2), api.Nat{2}, api.MaxShift-2)
	checkPower(t, ones(api.MaxWords), ones(api.MaxWords), 1)
	checkPower(t, next(alone(api.MaxShift-1)), next(alone(api.MaxShift-1)), 1)
	for _, c := range []struct {
		b api.Nat
		k int
	}{
		{api.Nat{3}, 165392}, {api.Nat{3}, 165391}, {api.Nat{6}, 101411}, {api.Nat{7}, 93377}, {api.Nat{10}, 78913}, {api.Nat{top}, 4096}, {next(alone(64)), 4001}, {ones(31), 131}, {next(alone(2000)), 131}, {next(ones(1000)), 4}, {next(alone(80000)), 3}, {less(alone(131072)), 2},
	} {
		x := pow(c.b, c.k)
		b, j, _ := root.Power(c.b)
		checkPower(t, x, b, c.k*j)
		checkPower(t, less(x), less(x), 1)
	}
	for _, x := range longest()[2:5] {
		b, k, e := root.Power(x)
		if e != api.OK || nat.Cmp(pow(b, k), x) != 0 {
			t.Errorf("Power%s: error %d,%s, %d", shown(x), e, shown(b), k)
		}
	}
}

// checkLog checks the logarithm of x by its definition.
func checkLog(t *testing.T, x, base api.Nat) {
	t.Helper()
	k, e := root.Log(x, base)
	if e != api.OK || k < 0 || k > 0 && powerAndNumber(base, k, x) > 0 || powerAndNumber(base, k+1, x) <= 0 {
		t.Errorf("Log%s: error %d, %d", shown(x, base), e, k)
	}
}

// checkLogIs checks that the logarithm of x is k.
func checkLogIs(t *testing.T, x, base api.Nat, k int) {
	t.Helper()
	if got, e := root.Log(x, base); e != api.OK || got != k {
		t.Errorf("Log%s: error %d, %d; want %d", shown(x, base), e, got, k)
	}
}

// P6.4: all small numbers.
func TestLogOfSmallNumbers(t *testing.T) {
	for base := uint64(2); base < 40; base++ {
		k, power := 0, base
		for x := uint64(1); x < 3000; x++ {
			if x == power {
				k, power = k+1, power*base
			}
			checkLogIs(t, api.Nat{x}, api.Nat{base}, k)
		}
	}
}

// P6.4: numbers of all lengths, with bases that are less or greater.
func TestLog(t *testing.T) {
	list := append(numbers(), longNumbers()...)
	for i, x := range list {
		if nat.Len(x) == 0 {
			continue
		}
		for _, base := range []api.Nat{{2}, {3}, {10, 0}, {top}, list[(i*7)%len(list)], list[(i*3+50)%len(list)], x, next(x)} {
			if nat.Len(base) > 1 {
				checkLog(t, x, base)
			}
		}
	}
}

// P6.7: powers, and the numbers before them.
func TestLogOfPowers(t *testing.T) {
	m := oracle.Mixer(139)
	for _, base := range []api.Nat{{2}, {3}, {10}, {16}, {255}, {1 << 32}, {top}, {0, 1}, {1, 1}, m.Row(2), m.Row(5), ones(3)} {
		for k := 1; k < 200; k += 1 + k/7 {
			power := pow(base, k)
			checkLogIs(t, power, base, k)
			checkLogIs(t, less(power), base, k-1)
			checkLogIs(t, next(power), base, k)
		}
	}
}

// P6.4, R2: the longest numbers.
func TestLogOfLongestNumbers(t *testing.T) {
	for _, base := range []api.Nat{{2}, {3}, {10}, {top}, {0, 1}, ones(63), ones(64), ones(65), ones(2048), next(ones(2048)), ones(2049), ones(api.MaxWords)} {
		checkLog(t, ones(api.MaxWords), base)
		checkLog(t, alone(api.MaxShift-1), base)
	}
	checkLogIs(t, ones(api.MaxWords), api.Nat{2}, api.MaxShift-1)
	checkLogIs(t, ones(api.MaxWords), ones(2048), 2)
	checkLogIs(t, ones(api.MaxWords), next(ones(2048)), 1)
	checkLogIs(t, alone(api.MaxShift-1), append(zeros(63), 1), 65)
	checkLogIs(t, append(api.Nat{5}, zeros(api.MaxWords-1)...), append(api.Nat{5}, zeros(api.MaxWords-1)...), 1)
}

// P6.4, R1: an x that is 0 comes before a base that is less than 2.
func TestLogOfWrongArguments(t *testing.T) {
	for _, x := range []api.Nat{nil, {0, 0}, zeros(api.MaxWords), {1}, {7}, ones(api.MaxWords)} {
		for _, base := range []api.Nat{nil, {0}, {1}, {1, 0}, zeros(api.MaxWords), {2}, ones(api.MaxWords)} {
			want := api.ErrArg
			if nat.Len(x) == 0 {
				want = api.ErrZero
			} else if nat.Len(base) > 1 {
				continue
			}
			k, e := root.Log(x, base)
			fails(t, []api.Nat{nat.FromWord(uint64(k))}, e, want, "Log", x, base)
		}
	}
}
