package prime_test

import (
	"slices"
	"testing"

	"reckoner/api"
	"reckoner/internal/oracle"
	"reckoner/prime"
)

// P9.5: all residues of small prime numbers, by search.
func TestRoot(t *testing.T) {
	for _, p := range append(primesBelow(300), 641, 769, 1009) {
		least := map[uint64]uint64{}
		for x := range p {
			if _, is := least[x*x%p]; !is {
				least[x*x%p] = x
			}
		}
		for a := range p {
			want, is := least[a]
			if x, got, e := prime.Root(a, p); e != api.OK || got != is || x != want {
				t.Errorf("Root(%d, %d): error %d, %d, %v; want %d, %v", a, p, e, x, got, want, is)
			}
		}
	}
}

// checkRoot checks Root of any residue a by its definition, and, where there is none, by Euler (P9.8).
func checkRoot(t *testing.T, a, p uint64) {
	t.Helper()
	x, is, e := prime.Root(a, p)
	euler := a == 0 || p == 2 || power(a, (p-1)/2, p) == 1
	switch {
	case e != api.OK || is != euler:
		t.Errorf("Root(%d, %d): error %d, %v", a, p, e, is)
	case !is && x != 0, is && (x > p-x || power(x, 2, p) != a):
		t.Errorf("Root(%d, %d): %d, %v", a, p, x, is)
	}
}

// P9.5, P9.8: residues of long words: of prime numbers with few and with many factors 2 below them.
func TestRootsOfLargePrimes(t *testing.T) {
	m := oracle.Mixer(31)
	for _, p := range append(largePrimes(), 2, 3, 5, 7, 97, 193, 7681, 12289, 40961, 786433, 5767169, 7340033, 167772161, 469762049) {
		for a := range min(p, 60) {
			checkRoot(t, a, p)
			checkRoot(t, p-1-a, p)
		}
		for range 60 {
			a := m.Next() % p
			checkRoot(t, a, p)
			x := min(a, p-a)
			if root, is, e := prime.Root(power(a, 2, p), p); e != api.OK || !is || root != x && a > 0 {
				t.Errorf("Root of the square of %d modulo %d: error %d, %d, %v", a, p, e, root, is)
			}
		}
		// All powers of 2 as orders: 2^i-th powers.
		x := m.Next()%(p-1) + 1
		for range 64 {
			checkRoot(t, x, p)
			x = power(x, 2, p)
		}
	}
}

// isGenerator tells whether the powers of g are all residues of a small prime p but 0.
func isGenerator(g, p uint64) bool {
	z := g % p
	for range p - 2 {
		if z == 1 {
			return false
		}
		z = z * g % p
	}
	return z == 1
}

// P9.5: small prime numbers, by search.
func TestGenerator(t *testing.T) {
	for _, p := range primesBelow(2500) {
		want := uint64(1)
		for !isGenerator(want, p) {
			want++
		}
		if g, e := prime.Generator(p); e != api.OK || g != want {
			t.Errorf("Generator(%d): error %d, %d; want %d", p, e, g, want)
		}
	}
}

// P9.5: long words, and prime numbers whose least generators are large: the order of a number is p - 1 just if its powers with the exponents (p - 1) / q are not 1, q being the prime factors.
func TestGeneratorOfLargePrimes(t *testing.T) {
	list := append(largePrimes(), 191, 409, 2161, 5881, 36721, 55441, 71761, 110881, 760321, 5109721, 17551561, 29418841, 33358081)
	for _, p := range list {
		factors, e := prime.Factor(p - 1)
		if z, is := product(factors...); e != api.OK || !is || z != p-1 {
			t.Errorf("Factor(%d): error %d, %d", p-1, e, factors)
		}
		g, e := prime.Generator(p)
		for x := uint64(1); x <= g; x++ {
			is := !slices.ContainsFunc(factors, func(q uint64) bool { return power(x, (p-1)/q, p) == 1 })
			if e != api.OK || is != (x == g) {
				t.Errorf("Generator(%d): error %d, %d; of %d it is %v", p, e, g, x, is)
			}
		}
	}
	for _, c := range [][2]uint64{{2, 1}, {3, 2}, {5, 2}, {7, 3}, {41, 6}, {191, 19}, {409, 21}, {65537, 3}, {36721, 37}, {760321, 73}, {1<<64 - 1<<32 + 1, 7}, {29<<57 + 1, 3}} {
		if g, e := prime.Generator(c[0]); e != api.OK || g != c[1] {
			t.Errorf("Generator(%d): error %d, %d; want %d", c[0], e, g, c[1])
		}
	}
}

// P9.5: numbers that are not prime, and an a that is no residue.
func TestErrorsOfRoots(t *testing.T) {
	list := append(pseudoprimes(), 0, 1, 4, 6, 8, 9, 15, 25, 561, 1105, 65535, 1<<32+1, top, half, 4294967291*4294967291)
	for _, p := range list {
		for _, a := range []uint64{0, 1, 2, p, top} {
			if x, is, e := prime.Root(a, p); e != api.ErrArg || is || x != 0 {
				t.Errorf("Root(%d, %d): error %d, %d, %v", a, p, e, x, is)
			}
		}
		if g, e := prime.Generator(p); e != api.ErrArg || g != 0 {
			t.Errorf("Generator(%d): error %d, %d", p, e, g)
		}
	}
	for _, p := range append(largePrimes(), 2, 3, 5, 7, 97) {
		for _, a := range []uint64{p, p + 1, 2*p + 1, top} {
			if a < p {
				continue
			}
			if x, is, e := prime.Root(a, p); e != api.ErrArg || is || x != 0 {
				t.Errorf("Root(%d, %d): error %d, %d, %v", a, p, e, x, is)
			}
		}
	}
}
