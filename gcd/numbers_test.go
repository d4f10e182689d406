package gcd_test

import (
	"slices"
	"testing"

	"reckoner/api"
	"reckoner/internal/oracle"
	"reckoner/nat"
)

const (
	top  = oracle.Top
	half = oracle.Half
)

var (
	alone = oracle.Alone
	less  = oracle.Less
	ones  = oracle.Ones
	plus  = oracle.Plus
	shown = oracle.Shown
	times = oracle.Times
)

// isZero tells whether the value of x is 0.
func isZero(x api.Nat) bool {
	return nat.Len(x) == 0
}

// isCanonical tells whether x has no words of 0 at its end.
func isCanonical(x api.Nat) bool {
	return slices.Equal(x, nat.Trim(x))
}

// padded returns x with n words of 0 behind it.
func padded(x api.Nat, n int) api.Nat {
	return append(slices.Clone(x), oracle.Zeros(n)...)
}

// fibonacci returns the n-th Fibonacci number and the next one; those from 0 on are 0, 1, 1, 2.
func fibonacci(n int) (api.Nat, api.Nat) {
	if n == 0 {
		return nil, api.Nat{1}
	}
	f, g := fibonacci(n / 2)
	square, next := times(f, f), plus(times(f, g), times(f, g))
	twice, _ := nat.Sub(next, square) // f (2 g - f)
	sum := plus(square, times(g, g))
	if n%2 == 0 {
		return twice, sum
	}
	return sum, plus(twice, sum)
}

// longestFibonacci is the place of the last Fibonacci number that is no longer than a number may be.
const longestFibonacci = 377599

// matrix is a matrix of two rows and two columns, row by row.
type matrix = [4]api.Nat

// product returns the product of the matrices q 1, 1 0, by halves of the list.
func product(l []api.Nat) matrix {
	switch len(l) {
	case 0:
		return matrix{{1}, nil, nil, {1}}
	case 1:
		return matrix{nat.Trim(l[0]), {1}, {1}, nil}
	}
	n := len(l) / 2
	a, b := product(l[:n]), product(l[n:])
	entry := func(i, j int) api.Nat {
		return plus(times(a[2*i], b[j]), times(a[2*i+1], b[2+j]))
	}
	return matrix{entry(0, 0), entry(0, 1), entry(1, 0), entry(1, 1)}
}

// words returns a list of numbers of one word each.
func words(l ...uint64) []api.Nat {
	var z []api.Nat
	for _, w := range l {
		z = append(z, nat.FromWord(w))
	}
	return z
}

// randomQuotients returns a list of n numbers, each but the first not 0 and the last greater than 1, such as quotients are: mostly small, and as large as they are by themselves beside others.
func randomQuotients(n int, m *oracle.Mixer) []api.Nat {
	var l []api.Nat
	for i := range n {
		q := nat.FromWord(1 + m.Next()%3)
		switch m.Next() % 40 {
		case 0:
			q = nat.FromWord(1<<31 + m.Next()%3 - 1)
		case 1:
			q = nat.FromWord(1<<32 + m.Next()%3 - 1)
		case 2:
			q = api.Nat{half, top, half + 1}[m.Next()%3:][:1]
		case 3:
			q = api.Nat(append(m.Row(int(m.Next()%4)), 1))
		case 4:
			q = ones(1 + int(m.Next()%3))
		case 5, 6, 7, 8:
			q = nat.FromWord(1 + m.Next()>>(m.Next()%64))
		}
		if i == 0 && m.Next()%8 == 0 {
			q = nil
		}
		if i == n-1 {
			q = plus(q, api.Nat{1})
		}
		l = append(l, q)
	}
	return l
}

// Fibonacci numbers, and matrices, by hand.
func TestNumbers(t *testing.T) {
	a, b := uint64(0), uint64(1)
	for n := range 90 {
		f, g := fibonacci(n)
		if nat.Cmp(f, nat.FromWord(a)) != 0 || nat.Cmp(g, nat.FromWord(b)) != 0 {
			t.Errorf("fibonacci(%d):%s", n, shown(f, g))
		}
		a, b = b, a+b
	}
	f, g := fibonacci(longestFibonacci)
	if len(f) != api.MaxWords || len(g) != api.MaxWords+1 {
		t.Errorf("the longest Fibonacci number has %d words, the next one %d", len(f), len(g))
	}
	if m := product(words(2, 3, 4)); !oracle.Same(m[:], words(30, 7, 13, 3)) {
		t.Errorf("product of 2, 3, 4:%s", shown(m[:]...))
	}
	if m := product(words(0, 5)); !oracle.Same(m[:], words(1, 0, 5, 1)) {
		t.Errorf("product of 0, 5:%s", shown(m[:]...))
	}
}
