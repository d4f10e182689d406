package prime_test

import (
	"slices"
	"testing"

	"reckoner/api"
	"reckoner/internal/oracle"
	"reckoner/prime"
)

// checkFactor checks Factor.
func checkFactor(t *testing.T, n uint64, want []uint64) {
	t.Helper()
	if got, e := prime.Factor(n); e != api.OK || !slices.Equal(got, want) {
		t.Errorf("Factor(%d): error %d, %d; want %d", n, e, got, want)
	}
}

// checkSplit checks Split of an n with these prime factors.
func checkSplit(t *testing.T, n uint64, factors []uint64) {
	t.Helper()
	d, e := prime.Split(n)
	if len(factors) < 2 {
		if e != api.ErrNone || d != 0 {
			t.Errorf("Split(%d): error %d, %d", n, e, d)
		}
	} else if e != api.OK || d <= 1 || d >= n || n%d != 0 {
		t.Errorf("Split(%d): error %d, %d", n, e, d)
	}
}

// checkPhi checks Phi.
func checkPhi(t *testing.T, n, want uint64) {
	t.Helper()
	if got, e := prime.Phi(n); e != api.OK || got != want {
		t.Errorf("Phi(%d): error %d, %d; want %d", n, e, got, want)
	}
}

// checkMoebius checks Moebius.
func checkMoebius(t *testing.T, n uint64, want int) {
	t.Helper()
	if got, e := prime.Moebius(n); e != api.OK || got != want {
		t.Errorf("Moebius(%d): error %d, %d; want %d", n, e, got, want)
	}
}

// checkAll checks all functions of the factors of n, which are told.
func checkAll(t *testing.T, n uint64, factors []uint64) {
	t.Helper()
	checkFactor(t, n, factors)
	checkSplit(t, n, factors)
	phi, moebius := uint64(1), 1
	for i, p := range factors {
		if i > 0 && p == factors[i-1] {
			phi *= p
			moebius = 0
		} else {
			phi *= p - 1
			moebius = -moebius
		}
	}
	checkPhi(t, n, phi)
	checkMoebius(t, n, moebius)
}

// P9.2: small numbers.
func TestFactorsOfSmallNumbers(t *testing.T) {
	for n := uint64(1); n < 6000; n++ {
		checkAll(t, n, primeFactors(n))
	}
	for n := uint64(1000000); n < 1000300; n++ {
		checkAll(t, n, primeFactors(n))
	}
}

// P9.2: Phi and Moebius by their definitions.
func TestPhiAndMoebius(t *testing.T) {
	for n := uint64(1); n < 700; n++ {
		count := uint64(0)
		for k := uint64(1); k <= n; k++ {
			if divisor(k, n) == 1 {
				count++
			}
		}
		checkPhi(t, n, count)
		want := 1
		for range primeFactors(n) {
			want = -want
		}
		for k := uint64(2); k*k <= n; k++ {
			if n%(k*k) == 0 {
				want = 0
			}
		}
		checkMoebius(t, n, want)
	}
}

// P9.2: powers of prime numbers, as long as they are words.
func TestFactorsOfPowers(t *testing.T) {
	list := []uint64{2, 3, 5, 7, 11, 31, 37, 41, 43, 251, 1093, 3511, 65519, 65521, 65537, 2642239, 2642245, 4294967279, 4294967291}
	for _, p := range list {
		if !prime.IsPrime(p) {
			continue
		}
		n, factors := uint64(1), []uint64(nil)
		for n <= top/p {
			n *= p
			factors = append(factors, p)
			checkAll(t, n, factors)
			if n <= top/2 && p > 2 {
				checkAll(t, 2*n, append([]uint64{2}, factors...))
			}
		}
	}
}

// product returns the product of words and whether it is a word.
func product(l ...uint64) (uint64, bool) {
	z := uint64(1)
	for _, w := range l {
		if w > top/z {
			return 0, false
		}
		z *= w
	}
	return z, true
}

// P9.2: products of two and three prime numbers.
func TestFactorsOfProducts(t *testing.T) {
	list := []uint64{2, 3, 37, 41, 43, 257, 641, 65519, 65521, 65537, 2097143, 2097169, 16777213, 2147483629, 2147483647, 4294967231, 4294967279, 4294967291, 4294967311, 1<<61 - 1}
	for i, p := range list {
		for j, q := range list[:i+1] {
			if n, is := product(q, p); is {
				checkAll(t, n, []uint64{q, p})
			}
			for _, r := range list[:j+1] {
				if n, is := product(r, q, p); is {
					checkAll(t, n, []uint64{r, q, p})
				}
			}
		}
	}
}

// P9.2: words with factors of all kinds.
func TestFactorsOfWords(t *testing.T) {
	for _, c := range []struct {
		n       uint64
		factors []uint64
	}{
		{top, []uint64{3, 5, 17, 257, 641, 65537, 6700417}},
		{top - 1, []uint64{2, 7, 7, 73, 127, 337, 92737, 649657}},
		{1<<60 - 1, []uint64{3, 3, 5, 5, 7, 11, 13, 31, 41, 61, 151, 331, 1321}},
		{1<<32 + 1, []uint64{641, 6700417}},
		{614889782588491410, []uint64{2, 3, 5, 7, 11, 13, 17, 19, 23, 29, 31, 37, 41, 43, 47}},
		{2432902008176640000, slices.Concat(slices.Repeat([]uint64{2}, 18), slices.Repeat([]uint64{3}, 8), []uint64{5, 5, 5, 5, 7, 7, 11, 13, 17, 19})},
		{41 * 41 * 43 * 43 * 47 * 47, []uint64{41, 41, 43, 43, 47, 47}},
		{59 * 65521 * 4294967291, []uint64{59, 65521, 4294967291}},
		{7156857700403137441, []uint64{11, 13, 17, 19, 29, 37, 41, 43, 61, 97, 109, 127}},
	} {
		checkAll(t, c.n, c.factors)
	}
}

// P9.6: of any words, the factors are prime, and their product is the word.
func TestProductOfFactors(t *testing.T) {
	m := oracle.Mixer(11)
	for i := range 1500 {
		n := m.Next()>>(i%64) | 1<<(i%7)
		l, e := prime.Factor(n)
		z, is := product(l...)
		if e != api.OK || !is || z != n {
			t.Errorf("Factor(%d): error %d, %d", n, e, l)
		}
		for _, p := range l {
			if z, e := prime.Prove(p); e != api.OK || z.N != p || !isProved(z) {
				t.Errorf("Factor(%d): %d, and %d is not prime", n, l, p)
			}
		}
		checkAll(t, n, l)
	}
}

// divisors returns all divisors of a number with these prime factors.
func divisors(factors []uint64) []uint64 {
	list := []uint64{1}
	for _, p := range factors {
		for _, d := range list {
			list = append(list, d*p)
		}
		slices.Sort(list)
		list = slices.Compact(list)
	}
	return list
}

// checkSums checks the sums of Phi and of Moebius over all divisors of n.
func checkSums(t *testing.T, n uint64, factors []uint64) {
	t.Helper()
	phi, moebius := uint64(0), 0
	for _, d := range divisors(factors) {
		f, e := prime.Phi(d)
		m, e2 := prime.Moebius(d)
		if e != api.OK || e2 != api.OK {
			t.Errorf("Phi(%d): error %d; Moebius: error %d", d, e, e2)
		}
		phi += f
		moebius += m
	}
	want := 0
	if n == 1 {
		want = 1
	}
	if phi != n || moebius != want {
		t.Errorf("divisors of %d: sum of Phi %d, of Moebius %d", n, phi, moebius)
	}
}

// P9.8: the sums over the divisors.
func TestSumsOverDivisors(t *testing.T) {
	for n := uint64(1); n < 2000; n++ {
		checkSums(t, n, primeFactors(n))
	}
	checkSums(t, 1<<63, slices.Repeat([]uint64{2}, 63))
	checkSums(t, top, []uint64{3, 5, 17, 257, 641, 65537, 6700417})
	checkSums(t, 4294967291*4294967279, []uint64{4294967279, 4294967291})
	checkSums(t, 4294967291*4294967291, []uint64{4294967291, 4294967291})
	checkSums(t, 1<<64-59, []uint64{1<<64 - 59})
	checkSums(t, 2*2*2*2*3*3*3*5*5*7*11*13*17*19*23, []uint64{2, 2, 2, 2, 3, 3, 3, 5, 5, 7, 11, 13, 17, 19, 23})
}

// P9.2: 0 has no factors, and numbers that are not split.
func TestErrorsOfFactors(t *testing.T) {
	if l, e := prime.Factor(0); e != api.ErrArg || len(l) > 0 {
		t.Errorf("Factor(0): error %d, %d", e, l)
	}
	if z, e := prime.Phi(0); e != api.ErrArg || z != 0 {
		t.Errorf("Phi(0): error %d, %d", e, z)
	}
	if z, e := prime.Moebius(0); e != api.ErrArg || z != 0 {
		t.Errorf("Moebius(0): error %d, %d", e, z)
	}
	for _, n := range append(largePrimes(), 0, 1, 2, 3, 5, 7, 37, 41) {
		checkSplit(t, n, nil)
	}
	checkFactor(t, 1, nil)
	checkPhi(t, 1, 1)
	checkMoebius(t, 1, 1)
}

// R4, R7: a list of factors is not kept.
func TestMemoryOfFactors(t *testing.T) {
	l, _ := prime.Factor(360)
	for i := range l[:cap(l)] {
		l[:cap(l)][i] = 1
	}
	checkFactor(t, 360, []uint64{2, 2, 2, 3, 3, 5})
}
