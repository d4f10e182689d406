package modular_test

import (
	"testing"

	"reckoner/api"
	"reckoner/internal/oracle"
	"reckoner/modular"
	"reckoner/nat"
)

// jacobi returns the symbol of a for n, and reports an error.
func jacobi(t *testing.T, a, n api.Nat) int {
	t.Helper()
	z, e := modular.Jacobi(a, n)
	if e != api.OK || z < -1 || z > 1 {
		t.Errorf("Jacobi%s: error %d, %d", shown(a, n), e, z)
	}
	return z
}

// defined returns the symbol of a for n by its definition, for small numbers.
func defined(a, n uint64) int {
	z := 1
	for p := uint64(2); n > 1; p++ {
		for n%p == 0 { // so that p is prime
			n /= p
			symbol := -1
			for x := uint64(1); x < p; x++ {
				if x*x%p == a%p {
					symbol = 1
				}
			}
			if a%p == 0 {
				symbol = 0
			}
			z *= symbol
		}
	}
	return z
}

// P8.6: small numbers, by the definition.
func TestJacobiOfSmallNumbers(t *testing.T) {
	for n := uint64(1); n < 240; n++ {
		for a := range uint64(300) {
			z, e := modular.Jacobi(nat.FromWord(a), api.Nat{n})
			switch {
			case n%2 == 0 && (e != api.ErrArg || z != 0):
				t.Errorf("Jacobi(%d, %d): error %d, %d", a, n, e, z)
			case n%2 == 1 && (e != api.OK || z != defined(a, n)):
				t.Errorf("Jacobi(%d, %d): error %d, %d; want %d", a, n, e, z, defined(a, n))
			}
		}
	}
}

// P8.6, P8.10: it depends on what a leaves; that of a product is a product, in both numbers; and it is 0 just for numbers with a common divisor.
func TestJacobiOfProducts(t *testing.T) {
	m := oracle.Mixer(53)
	for _, n := range oddModuli(&m, 1, 2, 3, 5, 9, 32, 64) {
		list := residues(n, &m)
		for i, a := range list {
			b := list[(i+4)%len(list)]
			z := jacobi(t, a, n)
			if got := jacobi(t, plus(a, times(n, m.Row(i))), n); got != z {
				t.Errorf("Jacobi%s, and of what a leaves: %d, %d", shown(a, n), got, z)
			}
			if got := jacobi(t, times(a, b), n); got != z*jacobi(t, b, n) {
				t.Errorf("Jacobi%s of the product: %d", shown(a, b, n), got)
			}
			if coprime := nat.Len(divisor(a, n)) == 1; coprime != (z != 0) {
				t.Errorf("Jacobi%s: %d", shown(a, n), z)
			}
			if len(n) > 32 {
				continue
			}
			other := api.Nat(m.Row(1 + i%32))
			other[0] |= 1
			if got := jacobi(t, a, times(n, other)); got != z*jacobi(t, a, other) {
				t.Errorf("Jacobi%s for the product: %d", shown(a, n, other), got)
			}
		}
	}
}

// P8.10: which symbols of two odd numbers are the same.
func TestJacobiBothWays(t *testing.T) {
	m := oracle.Mixer(59)
	list := oddModuli(&m, 1, 2, 3, 64)
	for _, a := range list {
		for _, n := range list {
			want := 1
			if a[0]%4 == 3 && n[0]%4 == 3 {
				want = -1
			}
			if nat.Len(divisor(a, n)) > 1 {
				want = 0
			}
			if got := jacobi(t, a, n) * jacobi(t, n, a); got != want {
				t.Errorf("Jacobi%s both ways: %d; want %d", shown(a, n), got, want)
			}
		}
	}
}

// P8.6: for prime numbers, by Euler's power; and those of 2 and -1.
func TestJacobiForPrimes(t *testing.T) {
	m := oracle.Mixer(61)
	for _, s := range mersennePrimes() {
		p := less(alone(s))
		middle, _ := nat.Right(p, 1)
		for _, a := range residues(p, &m) {
			want := 1
			switch z, e := modular.Pow(a, middle, p); {
			case e != api.OK:
				t.Fatalf("Pow%s: error %d", shown(a, middle, p), e)
			case nat.Len(z) == 0:
				want = 0
			case nat.Len(z) > 1:
				want = -1
			}
			if got := jacobi(t, a, p); got != want {
				t.Errorf("Jacobi%s: %d; want %d", shown(a, p), got, want)
			}
		}
		if got := jacobi(t, less(p), p); got != -1 { // as p leaves 3 by 4
			t.Errorf("Jacobi of -1 for 2^%d - 1: %d", s, got)
		}
	}
}

// P8.6: the longest a, and a and n with words that are 0.
func TestJacobiOfLongNumbers(t *testing.T) {
	m := oracle.Mixer(67)
	a, n := api.Nat(m.Row(api.MaxWords)), api.Nat(m.Row(64))
	n[0] |= 1
	if got, want := jacobi(t, a, padded(n, 100)), jacobi(t, left(a, n), n); got != want {
		t.Errorf("Jacobi of the longest number: %d; want %d", got, want)
	}
	for s := range 200 {
		want := 1
		if s%2 == 1 {
			want = -1
		}
		for _, n := range []api.Nat{{3}, {5}, {11}, plus(alone(4000), api.Nat{3}), minus(alone(4000), api.Nat{3})} {
			if got := jacobi(t, alone(s), n); got != want {
				t.Errorf("Jacobi of 2^%d%s: %d", s, shown(n), got)
			}
		}
		for _, n := range []api.Nat{{1}, {7}, {17}, plus(alone(4000), api.Nat{1}), ones(64)} {
			if got := jacobi(t, padded(alone(s), s), n); got != 1 {
				t.Errorf("Jacobi of 2^%d%s: %d", s, shown(n), got)
			}
		}
	}
	if got := jacobi(t, zeros(api.MaxWords), api.Nat{1}); got != 1 {
		t.Errorf("Jacobi(0, 1): %d", got)
	}
}

// P8.6, R1, R2: moduli that are even, 0, or too long.
func TestErrorsOfJacobi(t *testing.T) {
	for _, c := range []struct {
		a, n api.Nat
		want api.Errno
	}{
		{nil, api.Nat{2}, api.ErrArg}, {api.Nat{5}, api.Nat{0, 1}, api.ErrArg}, {api.Nat{5}, ones(65), api.ErrArg}, {api.Nat{5}, plus(alone(64*64), api.Nat{1}), api.ErrArg}, {ones(api.MaxWords), less(ones(64)), api.ErrArg},
		{api.Nat{5}, nil, api.ErrZero}, {nil, zeros(65), api.ErrZero}, {ones(api.MaxWords + 1), nil, api.ErrSize}, {nil, zeros(api.MaxWords + 1), api.ErrSize}, {zeros(api.MaxWords + 1), api.Nat{2}, api.ErrSize},
	} {
		z, e := modular.Jacobi(c.a, c.n)
		if e != c.want || z != 0 {
			t.Errorf("Jacobi%s: error %d, %d; want error %d", shown(c.a, c.n), e, z, c.want)
		}
	}
}
