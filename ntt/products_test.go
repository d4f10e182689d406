package ntt_test

import (
	"slices"
	"testing"

	"reckoner/api"
	"reckoner/internal/oracle"
	"reckoner/ntt"
)

// product is a way to multiply two lists.
type product struct {
	name string
	of   func(a, b []uint64) ([]uint64, api.Errno)
}

// longProduct returns the long product by its definition.
func longProduct(a, b []uint64) []uint64 {
	if len(a) == 0 || len(b) == 0 {
		return nil
	}
	z := make([]uint64, len(a)+len(b)-1)
	for i, r := range a {
		if r == 0 {
			continue
		}
		for j, s := range b {
			z[i+j] = sum(z[i+j], times(r, s))
		}
	}
	return z
}

// around returns a long product with what is beyond n elements added to the beginning, or taken away from it.
func around(l []uint64, n int, join func(a, b uint64) uint64) []uint64 {
	z := make([]uint64, n)
	copy(z, l)
	for i := n; i < len(l); i++ {
		z[i-n] = join(z[i-n], l[i])
	}
	return z
}

// checkProducts checks the round and the turned product of two lists with the same length by their definitions.
func checkProducts(t *testing.T, a, b []uint64) {
	t.Helper()
	n := len(a)
	long := longProduct(a, b)
	got, e := ntt.Round(a, b)
	check(t, got, e, around(long, n, sum), "Round", a, b)
	got, e = ntt.Turned(a, b)
	check(t, got, e, around(long, n, less), "Turned", a, b)
	if n <= 1<<15 {
		got, e = ntt.Long(a, b)
		check(t, got, e, long, "Long", a, b)
	}
}

// P4.3: products of short lists.
func TestRoundAndTurned(t *testing.T) {
	for n := 1; n <= 128; n *= 2 {
		for _, p := range pairs(n) {
			checkProducts(t, p[0], p[1])
		}
	}
	a, b := []uint64{1, 2}, []uint64{3, 4}
	got, e := ntt.Round(a, b)
	check(t, got, e, []uint64{11, 10}, "Round of the example")
	got, e = ntt.Turned(a, b)
	check(t, got, e, []uint64{prime - 5, 10}, "Turned of the example")
	got, e = ntt.Long(a, b)
	check(t, got, e, []uint64{3, 10, 8}, "Long of the example")
	got, e = ntt.Turned([]uint64{5}, []uint64{prime - 1})
	check(t, got, e, []uint64{prime - 5}, "Turned of 5 and P - 1")
}

// P4.3: products of long lists, one of which has few elements that are not 0.
func TestProductsOfLongLists(t *testing.T) {
	m := oracle.Mixer(79)
	for n := 256; n <= 1<<16; n *= 2 {
		sparse := single(n, n-1, prime-1)
		sparse[0], sparse[n/2+1] = m.Next()%prime, 3
		checkProducts(t, sparse, mixed(&m, n))
		checkProducts(t, sparse, slices.Repeat([]uint64{prime - 1}, n))
	}
	a, b := mixed(&m, 1024), mixed(&m, 1024)
	checkProducts(t, a, b)
	checkProducts(t, a, a)
}

// P4.3: long products of lists of all lengths.
func TestLong(t *testing.T) {
	m := oracle.Mixer(83)
	for n := range 20 {
		for k := range 20 {
			for _, p := range [][2][]uint64{{mixed(&m, n), mixed(&m, k)}, {slices.Repeat([]uint64{prime - 1}, n), mixed(&m, k)}, {make([]uint64, n), make([]uint64, k)}} {
				got, e := ntt.Long(p[0], p[1])
				check(t, got, e, longProduct(p[0], p[1]), "Long", p[0], p[1])
			}
		}
	}
	for _, n := range [][2]int{{1, 1 << 15}, {1 << 15, 1}, {2, 1 << 15}, {1 << 15, 3}, {1000, 25}, {63, 66}, {64, 65}, {129, 128}, {0, 1 << 15}, {1 << 15, 0}} {
		a, b := mixed(&m, n[0]), mixed(&m, n[1])
		got, e := ntt.Long(a, b)
		check(t, got, e, longProduct(a, b), "Long", a, b)
	}
	got, e := ntt.Long(nil, nil)
	check(t, got, e, nil, "Long of nothing")
}

// P4.3: the greatest lists of a long product.
func TestLongestLong(t *testing.T) {
	const n = 1 << 15
	full := slices.Repeat([]uint64{prime - 1}, n)
	want := make([]uint64, 2*n-1)
	for k := range want {
		want[k] = uint64(min(k+1, 2*n-1-k)) // so many products of -1 and -1
	}
	got, e := ntt.Long(full, full)
	check(t, got, e, want, "Long of P - 1", n)
	m := oracle.Mixer(89)
	sparse := single(n, n-1, 12345)
	sparse[7] = prime - 2
	for _, k := range []int{n, n - 1, n/2 + 1} {
		a := mixed(&m, k)
		got, e = ntt.Long(sparse, a)
		check(t, got, e, longProduct(sparse, a), "Long", sparse, a)
		got, e = ntt.Long(a, sparse)
		check(t, got, e, longProduct(sparse, a), "Long", a, sparse)
	}
}

// P4.3: lists whose lengths are none, or not the same.
func TestProductsOfWrongLengths(t *testing.T) {
	for _, p := range []product{{"Round", ntt.Round}, {"Turned", ntt.Turned}} {
		for _, n := range wrongLengths {
			for _, k := range []int{n, 1, 2} {
				got, e := p.of(make([]uint64, n), make([]uint64, k))
				fails(t, got, e, api.ErrArg, p.name, n, k)
				got, e = p.of(make([]uint64, k), make([]uint64, n))
				fails(t, got, e, api.ErrArg, p.name, k, n)
			}
		}
		for _, n := range [][2]int{{0, 1}, {1, 2}, {2, 4}, {8, 64}, {1 << 15, 1 << 16}, {1 << 16, 1 << 17}} {
			got, e := p.of(make([]uint64, n[0]), make([]uint64, n[1]))
			fails(t, got, e, api.ErrArg, p.name, n)
			got, e = p.of(make([]uint64, n[1]), make([]uint64, n[0]))
			fails(t, got, e, api.ErrArg, p.name, n)
		}
	}
	for _, n := range []int{1<<15 + 1, 1 << 16, 1<<16 + 1} {
		for _, k := range []int{0, 1, 1 << 15, n} {
			got, e := ntt.Long(make([]uint64, n), make([]uint64, k))
			fails(t, got, e, api.ErrArg, "Long", n, k)
			got, e = ntt.Long(make([]uint64, k), make([]uint64, n))
			fails(t, got, e, api.ErrArg, "Long", k, n)
		}
	}
}

// P4.3: lists with elements that are not residues, also beside an empty list.
func TestProductsOfWrongWords(t *testing.T) {
	for _, p := range []product{{"Round", ntt.Round}, {"Turned", ntt.Turned}, {"Long", ntt.Long}} {
		for _, n := range []int{1, 2, 16, 1 << 15} {
			for _, wrong := range wrongs {
				for _, place := range []int{0, n / 2, n - 1} {
					l := single(n, place, wrong)
					for _, other := range [][]uint64{make([]uint64, n), slices.Repeat([]uint64{1}, n), l, nil, {1}} {
						got, e := p.of(l, other)
						fails(t, got, e, api.ErrArg, p.name, l, other, place)
						got, e = p.of(other, l)
						fails(t, got, e, api.ErrArg, p.name, other, l, place)
					}
				}
			}
		}
	}
}

// P4.8: Round is Long with what is beyond n added to the beginning; Turned takes it away.
func TestRoundOfLong(t *testing.T) {
	for n := 1; n <= 1<<15; n *= 8 {
		for _, p := range pairs(n) {
			long, e := ntt.Long(p[0], p[1])
			if e != api.OK {
				t.Errorf("Long%s: error %d", shown(p[0], p[1]), e)
			}
			got, e := ntt.Round(p[0], p[1])
			check(t, got, e, around(long, n, sum), "Round", p[0], p[1])
			got, e = ntt.Turned(p[0], p[1])
			check(t, got, e, around(long, n, less), "Turned", p[0], p[1])
		}
	}
}
