package ntt_test

import (
	"fmt"
	"math"
	"math/bits"
	"slices"
	"testing"

	"reckoner/api"
	"reckoner/internal/oracle"
	"reckoner/ntt"
)

const prime = 1<<64 - 1<<32 + 1

// shown is what arguments or results look like in a test's message: lists with their first elements, and how many these are.
func shown(args ...any) string {
	var s string
	for _, a := range args {
		switch x := a.(type) {
		case api.Nat:
			s += fmt.Sprintf(" %x (%d words)", oracle.Short(x), len(x))
		case []uint64:
			s += fmt.Sprintf(" %d (%d elements)", oracle.Short(x), len(x))
		default:
			s += fmt.Sprint(" ", a)
		}
	}
	return s
}

// check reports a list, or a number, that is not the one that is wanted.
func check[L ~[]uint64](t *testing.T, got L, e api.Errno, want []uint64, name string, args ...any) {
	t.Helper()
	if e != api.OK || !slices.Equal(got, want) {
		t.Errorf("%s%s: error %d,%s; want%s", name, shown(args...), e, shown(got), shown(want))
	}
}

// fails reports a result that is not this error beside an empty list.
func fails[L ~[]uint64](t *testing.T, got L, e, want api.Errno, name string, args ...any) {
	t.Helper()
	if e != want || len(got) != 0 {
		t.Errorf("%s%s: error %d,%s; want error %d", name, shown(args...), e, shown(got), want)
	}
}

// sum returns a + b modulo the prime, by the machine's division.
func sum(a, b uint64) uint64 {
	low, carry := bits.Add64(a, b, 0)
	return bits.Rem64(carry, low, prime)
}

// less returns a - b modulo the prime, of residues.
func less(a, b uint64) uint64 {
	return sum(a, prime-b)
}

// times returns a b modulo the prime, by the machine's division.
func times(a, b uint64) uint64 {
	high, low := bits.Mul64(a, b)
	return bits.Rem64(high, low, prime)
}

// power returns a to the power of k modulo the prime.
func power(a, k uint64) uint64 {
	z := uint64(1)
	for i := 63; i >= 0; i-- {
		z = times(z, z)
		if k>>i&1 == 1 {
			z = times(z, a)
		}
	}
	return z
}

// root returns w(n).
func root(n int) uint64 {
	return power(7, (prime-1)/uint64(n))
}

// words are words about those at which sums, products and remainders change.
func words() []uint64 {
	list := append(oracle.Edges(), 2, 7, 1<<31, 1<<32-2, 1<<32-1, 1<<32, 1<<32+1, 1<<33, 1<<48, 1<<63-1<<31, 1<<63-1<<31+1, 1<<64-1<<33, 1<<64-1<<33+1, prime-1<<32, prime-2, prime-1, prime, prime+1, prime+2, prime+1<<31)
	m := oracle.Mixer(3)
	return append(list, m.Row(20)...)
}

// residues are those of the words that are less than the prime.
func residues() []uint64 {
	return slices.DeleteFunc(words(), func(w uint64) bool { return w >= prime })
}

// wrongs are those that are not.
var wrongs = []uint64{prime, prime + 1, prime + 7, prime + 1<<31, oracle.Top - 1, oracle.Top}

// P4.1: what two words leave.
func TestReduce(t *testing.T) {
	for _, high := range words() {
		for _, low := range words() {
			if got, want := ntt.Reduce(high, low), bits.Rem64(high, low, prime); got != want {
				t.Errorf("Reduce(%d, %d) = %d, want %d", high, low, got, want)
			}
		}
	}
	if got := ntt.Reduce(1, 0); got != 1<<32-1 {
		t.Errorf("Reduce of 2^64: %d", got)
	}
	if got := ntt.Reduce(1<<32, 0); got != prime-1 {
		t.Errorf("Reduce of 2^96: %d", got)
	}
}

// operation is one of two residues.
type operation struct {
	name      string
	got, want func(a, b uint64) (uint64, api.Errno)
}

func operations() []operation {
	of := func(f func(a, b uint64) uint64) func(a, b uint64) (uint64, api.Errno) {
		return func(a, b uint64) (uint64, api.Errno) { return f(a, b), api.OK }
	}
	return []operation{{"Add", ntt.Add, of(sum)}, {"Sub", ntt.Sub, of(less)}, {"Times", ntt.Times, of(times)}}
}

// P4.1: sums, differences and products.
func TestOperations(t *testing.T) {
	for _, o := range operations() {
		for _, a := range residues() {
			for _, b := range residues() {
				got, e := o.got(a, b)
				if want, _ := o.want(a, b); got != want || e != api.OK {
					t.Errorf("%s(%d, %d) = %d, error %d; want %d", o.name, a, b, got, e, want)
				}
			}
		}
	}
}

// P4.1: words that are not residues, on either side.
func TestOperationsOfWrongWords(t *testing.T) {
	for _, o := range append(operations(), operation{name: "Pow", got: func(a, _ uint64) (uint64, api.Errno) { return ntt.Pow(a, 2) }}, operation{name: "Inverse", got: func(a, _ uint64) (uint64, api.Errno) { return ntt.Inverse(a) }}) {
		for _, wrong := range wrongs {
			for _, w := range append(wrongs, 0, 1, prime-1) {
				if got, e := o.got(wrong, w); got != 0 || e != api.ErrArg {
					t.Errorf("%s(%d, %d) = %d, error %d", o.name, wrong, w, got, e)
				}
				if o.want == nil { // of one residue
					continue
				}
				if got, e := o.got(w, wrong); got != 0 || e != api.ErrArg {
					t.Errorf("%s(%d, %d) = %d, error %d", o.name, w, wrong, got, e)
				}
			}
		}
	}
}

// P4.1: powers, also with exponents that are not residues.
func TestPow(t *testing.T) {
	for _, a := range residues() {
		for _, k := range append(words(), 0, 1, 2, 3, 4, 5, 64, 65) {
			if got, e := ntt.Pow(a, k); got != power(a, k) || e != api.OK {
				t.Errorf("Pow(%d, %d) = %d, error %d; want %d", a, k, got, e, power(a, k))
			}
		}
	}
	for _, c := range [][3]uint64{{0, 0, 1}, {0, 1, 0}, {0, oracle.Top, 0}, {5, 0, 1}, {2, 64, 1<<32 - 1}, {2, 96, prime - 1}, {2, 192, 1}, {7, prime - 1, 1}, {7, (prime - 1) / 2, prime - 1}, {prime - 1, oracle.Top, prime - 1}} {
		if got, e := ntt.Pow(c[0], c[1]); got != c[2] || e != api.OK {
			t.Errorf("Pow(%d, %d) = %d, error %d; want %d", c[0], c[1], got, e, c[2])
		}
	}
	for _, k := range words() {
		if got, e := ntt.Pow(prime, k); got != 0 || e != api.ErrArg {
			t.Errorf("Pow(P, %d) = %d, error %d", k, got, e)
		}
	}
}

// P4.1: the residue whose product with another one is 1.
func TestInverse(t *testing.T) {
	for _, a := range residues() {
		got, e := ntt.Inverse(a)
		switch {
		case a == 0:
			if got != 0 || e != api.ErrZero {
				t.Errorf("Inverse(0) = %d, error %d", got, e)
			}
		case got >= prime || times(a, got) != 1 || e != api.OK:
			t.Errorf("Inverse(%d) = %d, error %d", a, got, e)
		}
	}
	if got, e := ntt.Inverse(2); got != (prime+1)/2 || e != api.OK {
		t.Errorf("Inverse(2) = %d, error %d", got, e)
	}
}

// P4.1: the root for each length.
func TestRoot(t *testing.T) {
	for n := 1; n <= 1<<16; n *= 2 {
		if got, e := ntt.Root(n); got != root(n) || e != api.OK {
			t.Errorf("Root(%d) = %d, error %d; want %d", n, got, e, root(n))
		}
	}
	for n, want := range map[int]uint64{1: 1, 2: prime - 1, 4: 1 << 48} {
		if got, e := ntt.Root(n); got != want || e != api.OK {
			t.Errorf("Root(%d) = %d, error %d; want %d", n, got, e, want)
		}
	}
}

// P4.1: numbers that are not lengths.
func TestRootOfWrongLengths(t *testing.T) {
	list := []int{0, -1, -2, -4, -1 << 16, 3, 5, 6, 7, 9, 12, 100, 1<<15 + 1, 3 << 14, 1<<16 - 1, 1<<16 + 1, 1 << 17, 1 << 18, 1 << 32, 1<<32 + 1, 1<<32 + 2, 1 << 62, math.MaxInt, math.MinInt}
	for _, n := range list {
		if got, e := ntt.Root(n); got != 0 || e != api.ErrArg {
			t.Errorf("Root(%d) = %d, error %d", n, got, e)
		}
	}
}

// P4.7: a root to the power of its length is 1, and to half of it P - 1.
func TestPowersOfRoots(t *testing.T) {
	for n := 1; n <= 1<<16; n *= 2 {
		w, _ := ntt.Root(n)
		if got, e := ntt.Pow(w, uint64(n)); got != 1 || e != api.OK {
			t.Errorf("Root(%d) to its length: %d, error %d", n, got, e)
		}
		if got, e := ntt.Pow(w, uint64(n/2)); n >= 2 && (got != prime-1 || e != api.OK) {
			t.Errorf("Root(%d) to half of its length: %d, error %d", n, got, e)
		}
	}
}
