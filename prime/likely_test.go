package prime_test

import (
	"slices"
	"testing"

	"reckoner/api"
	"reckoner/internal/oracle"
	"reckoner/nat"
	"reckoner/prime"
)

// checkTruth checks a result that is true or false.
func checkTruth(t *testing.T, got bool, e api.Errno, want bool, name string, args ...api.Nat) {
	t.Helper()
	if e != api.OK || got != want {
		t.Errorf("%s%s: error %d, %v", name, shown(args...), e, got)
	}
}

// failsTruth checks an error, beside which the result is false.
func failsTruth(t *testing.T, got bool, e, want api.Errno, name string, args ...api.Nat) {
	t.Helper()
	if e != want || got {
		t.Errorf("%s%s: error %d, %v; want error %d", name, shown(args...), e, got, want)
	}
}

// isPassed tells whether an odd n passes for a, by the definition.
func isPassed(n, a api.Nat) bool {
	last := less(n)
	d, s := last, 0
	for !nat.Bit(d, 0) {
		d, _ = nat.Right(d, 1)
		s++
	}
	if nat.Cmp(longPower(a, d, n), api.Nat{1}) == 0 {
		return true
	}
	for range s {
		if nat.Cmp(longPower(a, d, n), last) == 0 {
			return true
		}
		d, _ = nat.Left(d, 1)
	}
	return false
}

// P9.4, P9.7: all small numbers: prime ones pass for each a.
func TestPasses(t *testing.T) {
	is := sieve(200)
	for n := uint64(3); n < 200; n += 2 {
		for a := uint64(1); a < n; a++ {
			want := isPassed(api.Nat{n}, api.Nat{a})
			got, e := prime.Passes(api.Nat{n}, api.Nat{a})
			checkTruth(t, got, e, want, "Passes", api.Nat{n}, api.Nat{a})
			if is[n] && !got {
				t.Errorf("Passes(%d, %d): false", n, a)
			}
		}
	}
}

// P9.4: products that pass for the first prime numbers, but not for all.
func TestPassesOfProducts(t *testing.T) {
	first := []uint64{2, 3, 5, 7, 11, 13, 17, 19, 23, 29, 31, 37, 41, 43}
	many := []int{1, 2, 3, 4, 5, 6, 7, 9, 12, 13} // for how many of them
	list := []api.Nat{}
	for _, n := range pseudoprimes() {
		list = append(list, api.Nat{n})
	}
	// 318665857834031151167461 and 3317044064679887385961981 (Sorenson and Webster)
	list = append(list, plus(times(api.Nat{31866585783403}, api.Nat{10000000000}), api.Nat{1151167461}), plus(times(api.Nat{331704406467988}, api.Nat{10000000000}), api.Nat{7385961981}))
	for i, n := range list {
		for j, a := range first {
			got, e := prime.Passes(n, api.Nat{a})
			if j < many[i] {
				checkTruth(t, got, e, true, "Passes", n, api.Nat{a})
			}
			if got != isPassed(n, api.Nat{a}) {
				t.Errorf("Passes%s: %v", shown(n, api.Nat{a}), got)
			}
		}
		got, e := prime.PassesLucas(n)
		checkTruth(t, got, e, false, "PassesLucas", n)
		got, e = prime.IsLikely(n)
		checkTruth(t, got, e, false, "IsLikely", n)
	}
}

// P9.4: long numbers of all kinds, by the definition.
func TestPassesOfLongNumbers(t *testing.T) {
	m := oracle.Mixer(19)
	list := longPrimes()[:9]
	for words := 1; words < 7; words++ {
		n := api.Nat(m.Row(words))
		n[0] |= 1
		list = append(list, n, times(longPrimes()[0], n), ones(words), append(api.Nat{1}, append(zeros(words), 1)...))
	}
	for _, n := range list {
		for _, a := range []api.Nat{{1}, {2}, {3}, less(n), less(less(n)), m.Row(1), left(m.Row(len(n)), n)} {
			if nat.Cmp(a, n) < 0 && nat.Len(a) > 0 {
				got, e := prime.Passes(n, a)
				checkTruth(t, got, e, isPassed(n, a), "Passes", n, a)
			}
		}
	}
}

// P9.4, P9.7: powers in steps: for each number of squares, prime numbers and numbers by which they are reached just then.
func TestPassesAfterSquares(t *testing.T) {
	n := proth(81, 121)
	x := api.Nat{5} // what no square leaves
	for range 123 {
		got, e := prime.Passes(n, x)
		checkTruth(t, got, e, true, "Passes", n, x)
		x = left(times(x, x), n)
	}
	for s := 1; s < 60; s++ { // 2 to the power of 2^s leaves -1 by 2^(2^s) + 1, and 2^j has that after fewer squares
		for _, n := range []api.Nat{plus(alone(s), api.Nat{1}), less(alone(s + 2))} {
			for _, a := range []api.Nat{{2}, {4}, {16}, {256}} {
				if nat.Cmp(a, n) < 0 {
					got, e := prime.Passes(n, a)
					checkTruth(t, got, e, isPassed(n, a), "Passes", n, a)
				}
			}
		}
	}
}

// symbol returns the Jacobi symbol of a for n, both odd words, by the prime factors of n.
func symbol(a, n int) int {
	z := 1
	for _, p := range primeFactors(uint64(n)) {
		switch power(uint64(mod(a, int(p))), (p-1)/2, p) {
		case 0:
			return 0
		case p - 1:
			z = -z
		}
	}
	return z
}

// firstD returns Lucas' D of an odd n that is not a square, or false if one before has a common divisor with it, by the definition.
func firstD(n int) (int, bool) {
	for size, sign := 5, 1; ; size, sign = size+2, -sign {
		if symbol(sign*size, n) == -1 {
			return sign * size, true
		}
		for d := 2; d <= size; d++ {
			if size%d == 0 && n%d == 0 && d != n {
				return 0, false
			}
		}
	}
}

// isPassedByLucas tells whether a small odd n that is not a square passes Lucas, by the definition.
func isPassedByLucas(n int) bool {
	d, is := firstD(n)
	if !is {
		return false
	}
	q := (1 - d) / 4
	odd := n + 1
	for odd%2 == 0 {
		odd /= 2
	}
	u, u2, v, v2 := 0, 1, 2, 1
	next := odd // the next k to look at
	for k := 0; k <= n; k++ {
		if k == next {
			if k == odd && u == 0 || v == 0 {
				return true
			}
			next *= 2
		}
		u, u2 = u2, mod(u2-q*u, n)
		v, v2 = v2, mod(v2-q*v, n)
	}
	return false
}

// isSquare tells whether n is a square.
func isSquare(n int) bool {
	s := 0
	for s*s < n {
		s++
	}
	return s*s == n
}

// P9.4, P9.7: all small numbers: prime ones pass Lucas.
func TestPassesLucas(t *testing.T) {
	is := sieve(9000)
	for n := range 9000 {
		got, e := prime.PassesLucas(nat.FromWord(uint64(n)))
		if n%2 == 0 || n < 3 || isSquare(n) {
			failsTruth(t, got, e, api.ErrArg, "PassesLucas", api.Nat{uint64(n)})
			continue
		}
		checkTruth(t, got, e, isPassedByLucas(n), "PassesLucas", api.Nat{uint64(n)})
		if is[n] && !got {
			t.Errorf("PassesLucas(%d): false", n)
		}
	}
}

// P9.4: the products that pass Lucas, and are not likely (Baillie and Wagstaff).
func TestProductsThatPassLucas(t *testing.T) {
	list := []uint64{5459, 5777, 10877, 16109, 18971, 22499, 24569, 25199, 40309, 58519, 75077, 97439}
	is := sieve(100000)
	for n := uint64(3); n < 100000; n += 2 {
		if is[n] || isSquare(int(n)) {
			continue
		}
		got, e := prime.PassesLucas(api.Nat{n})
		checkTruth(t, got, e, slices.Contains(list, n), "PassesLucas", api.Nat{n})
	}
	for _, n := range list {
		got, e := prime.IsLikely(api.Nat{n})
		checkTruth(t, got, e, false, "IsLikely", api.Nat{n})
	}
}

// P9.4: products of 5 and another number, which would pass with the first D whose symbol is -1, if 5, the one before, had no common divisor with them.
func TestProductsWithACommonDivisor(t *testing.T) {
	for _, n := range []uint64{40168655, 84082415, 97421015, 224295245, 275845685, 1414536815, 2739499685} {
		got, e := prime.PassesLucas(api.Nat{n})
		checkTruth(t, got, e, false, "PassesLucas", api.Nat{n})
	}
}

// P9.4, P9.7: small numbers that are likely are just the prime ones.
func TestIsLikely(t *testing.T) {
	for n, is := range sieve(150000) {
		got, e := prime.IsLikely(nat.FromWord(uint64(n)))
		checkTruth(t, got, e, is, "IsLikely", api.Nat{uint64(n)})
	}
}

// P9.7: so it is with long words: those in a row, those that pass for 2, and any ones.
func TestIsLikelyOfWords(t *testing.T) {
	m := oracle.Mixer(23)
	list := append(largePrimes(), pseudoprimes()...)
	for i := range uint64(500) {
		list = append(list, top-2*i, half+2*i+1, 1<<32-2*i-1, m.Next()|1, m.Next()>>(i%60)|1)
	}
	// Two prime factors, one of which is 2 k (p - 1) + 1, p the other one: many of these products pass for some a.
	for p := uint64(1000003); len(list) < 3500; p += 2 {
		if prime.IsPrime(p) {
			list = append(list, p*p, p*(2*p-1), p*(3*p-2), p*(4*p-3))
		}
	}
	for _, n := range list {
		got, e := prime.IsLikely(api.Nat{n})
		checkTruth(t, got, e, prime.IsPrime(n), "IsLikely", api.Nat{n})
	}
}

// P9.7: long prime numbers pass for each a, and are likely, up to 32 words.
func TestLongPrimesPass(t *testing.T) {
	m := oracle.Mixer(29)
	for _, n := range longPrimes() {
		for _, a := range []api.Nat{{1}, {2}, {3}, less(n), left(m.Row(33), n)} {
			got, e := prime.Passes(n, a)
			checkTruth(t, got, e, true, "Passes", n, a)
		}
		got, e := prime.PassesLucas(n)
		checkTruth(t, got, e, true, "PassesLucas", n)
		got, e = prime.IsLikely(n)
		checkTruth(t, got, e, true, "IsLikely", n)
	}
	n := proth(1281, 2037)
	if len(n) != 32 {
		t.Errorf("the longest prime number has %d words", len(n))
	}
	got, e := prime.IsLikely(padded(n, api.MaxWords-32))
	checkTruth(t, got, e, true, "IsLikely with zeros", n)
}

// checkNotLikely checks that n, which is odd and no square, neither passes Lucas nor is likely.
func checkNotLikely(t *testing.T, n api.Nat) {
	t.Helper()
	got, e := prime.PassesLucas(n)
	checkTruth(t, got, e, false, "PassesLucas", n)
	got, e = prime.IsLikely(n)
	checkTruth(t, got, e, false, "IsLikely", n)
}

// P9.4: numbers of Mersenne and Fermat, and the squares of 1093 and 3511, pass for 2 also where they are not prime.
func TestProductsThatPassForTwo(t *testing.T) {
	list := []api.Nat{{1093 * 1093}, {3511 * 3511}}
	for _, s := range []int{11, 23, 29, 37, 41, 67, 71, 101, 257, 523, 1277} {
		list = append(list, less(alone(s)))
	}
	for _, s := range []int{32, 64, 128, 256, 512, 1024} {
		list = append(list, plus(alone(s), api.Nat{1}))
	}
	for i, n := range list {
		got, e := prime.Passes(n, api.Nat{2})
		checkTruth(t, got, e, true, "Passes for 2", n)
		if i > 1 {
			checkNotLikely(t, n)
			continue
		}
		got, e = prime.PassesLucas(n)
		failsTruth(t, got, e, api.ErrArg, "PassesLucas", n)
		got, e = prime.IsLikely(n)
		checkTruth(t, got, e, false, "IsLikely", n)
	}
}

// P9.4: products of long prime numbers, and the greatest numbers.
func TestLongProductsAreNotLikely(t *testing.T) {
	l := longPrimes()
	for i, p := range l {
		for _, q := range l[i+1:] {
			if n := times(p, q); len(n) <= 32 {
				checkNotLikely(t, n)
			}
		}
	}
	for _, n := range []api.Nat{ones(32), less(less(ones(32))), ones(2), ones(31)} {
		checkNotLikely(t, n)
	}
}

// P9.4: squares, even numbers, and those less than 3.
func TestNumbersThatAreNotTested(t *testing.T) {
	for _, n := range append(longPrimes()[:8], api.Nat{3}, api.Nat{5}, api.Nat{15}, api.Nat{top}, ones(16)) {
		square := times(n, n)
		if len(square) > 32 {
			continue
		}
		got, e := prime.PassesLucas(square)
		failsTruth(t, got, e, api.ErrArg, "PassesLucas", square)
		got, e = prime.IsLikely(square)
		checkTruth(t, got, e, false, "IsLikely", square)
		even := times(n, api.Nat{2})
		got, e = prime.PassesLucas(even)
		failsTruth(t, got, e, api.ErrArg, "PassesLucas", even)
		got, e = prime.Passes(even, api.Nat{1})
		failsTruth(t, got, e, api.ErrArg, "Passes", even)
		got, e = prime.IsLikely(even)
		checkTruth(t, got, e, false, "IsLikely", even)
	}
	for n := range uint64(5) {
		got, e := prime.IsLikely(nat.FromWord(n))
		checkTruth(t, got, e, n == 2 || n == 3, "IsLikely", nat.FromWord(n))
	}
}

// P9.4, R1, R2: numbers that are too long, and an a that is out of its range.
func TestErrorsOfTests(t *testing.T) {
	tooLong := ones(api.MaxWords + 1)
	for _, c := range []struct {
		n, a api.Nat
		want api.Errno
	}{
		{nil, api.Nat{1}, api.ErrArg}, {api.Nat{0}, nil, api.ErrArg}, {api.Nat{1}, api.Nat{1}, api.ErrArg}, {api.Nat{1}, nil, api.ErrArg}, {api.Nat{2}, api.Nat{1}, api.ErrArg}, {api.Nat{4}, api.Nat{1}, api.ErrArg}, {api.Nat{0, 1}, api.Nat{1}, api.ErrArg},
		{api.Nat{7}, nil, api.ErrArg}, {api.Nat{7}, zeros(50), api.ErrArg}, {api.Nat{7}, api.Nat{7}, api.ErrArg}, {api.Nat{7}, api.Nat{8}, api.ErrArg}, {api.Nat{7}, api.Nat{1, 1}, api.ErrArg}, {api.Nat{7}, ones(api.MaxWords), api.ErrArg}, {ones(32), ones(32), api.ErrArg},
		{ones(33), api.Nat{2}, api.ErrArg}, {plus(alone(64*32), api.Nat{1}), api.Nat{2}, api.ErrArg}, {ones(api.MaxWords), api.Nat{2}, api.ErrArg},
		{tooLong, api.Nat{2}, api.ErrSize}, {api.Nat{7}, tooLong, api.ErrSize}, {zeros(api.MaxWords + 1), nil, api.ErrSize}, {nil, zeros(api.MaxWords + 1), api.ErrSize},
	} {
		got, e := prime.Passes(c.n, c.a)
		failsTruth(t, got, e, c.want, "Passes", c.n, c.a)
	}
	for _, c := range []struct {
		n    api.Nat
		want api.Errno
	}{{ones(33), api.ErrArg}, {alone(64 * 32), api.ErrArg}, {times(ones(20), ones(20)), api.ErrArg}, {ones(api.MaxWords), api.ErrArg}, {tooLong, api.ErrSize}, {zeros(api.MaxWords + 1), api.ErrSize}} {
		got, e := prime.PassesLucas(c.n)
		failsTruth(t, got, e, c.want, "PassesLucas", c.n)
		got, e = prime.IsLikely(c.n)
		failsTruth(t, got, e, c.want, "IsLikely", c.n)
	}
	got, e := prime.Passes(padded(api.Nat{2047}, 4000), padded(api.Nat{2}, 50))
	checkTruth(t, got, e, true, "Passes with zeros")
}
