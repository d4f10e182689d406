package divide_test

import (
	"testing"

	"reckoner/api"
	"reckoner/divide"
	"reckoner/internal/oracle"
	"reckoner/internal/rows"
	"reckoner/nat"
)

// checkInverse checks the inverse of a canonical normal v by its definition: the product with v is less than 2^(128 n), and with one v more not less (P5.8).
func checkInverse(t *testing.T, v api.Nat) {
	t.Helper()
	got, e := divide.Inverse(v)
	n := len(v)
	product := times(v, got)
	if e != api.OK || len(got) != n+1 || got[n] == 0 || len(product) > 2*n {
		t.Errorf("Inverse%s: error %d,%s", shown(v), e, shown(got))
		return
	}
	next := zeros(2 * n)
	copy(next, product)
	if rows.Add(next, v, 1) == 0 {
		t.Errorf("Inverse%s =%s is too small", shown(v), shown(got))
	}
}

// P5.2, P5.8: inverses of divisors of all shapes and lengths.
func TestInverse(t *testing.T) {
	for _, w := range []uint64{half, half + 1, half + 2, half + half/2, top - 1, top} {
		checkInverse(t, api.Nat{w})
	}
	m := oracle.Mixer(29)
	for n := 2; n <= 70; n++ {
		for _, v := range shapes(n, &m)[5:] {
			checkInverse(t, v)
			checkInverse(t, append(less(v[:n-1]), v[n-1]))
		}
	}
	for _, n := range []int{100, 127, 128, 129, 300, 513} {
		for _, v := range shapes(n, &m)[5:] {
			checkInverse(t, v)
		}
	}
}

// P5.2, P5.8: inverses of all divisors whose words are edges, of at most four words.
func TestInverseOfEdges(t *testing.T) {
	list := []api.Nat{nil}
	for range 4 {
		var longer []api.Nat
		for _, x := range list {
			for _, w := range oracle.Edges() {
				longer = append(longer, append(x[:len(x):len(x)], w))
				if w >= half {
					checkInverse(t, append(x[:len(x):len(x)], w))
				}
			}
		}
		list = longer
	}
}

// P5.2: divisors that have no inverse.
func TestInverseOfOthers(t *testing.T) {
	for _, v := range append(numbers(), longNumbers()...) {
		if trimmed := nat.Trim(v); len(trimmed) == 0 || trimmed[len(trimmed)-1] < half {
			got, e := divide.Inverse(v)
			fails(t, []api.Nat{got}, e, api.ErrArg, "Inverse", v)
		}
	}
	for _, v := range []api.Nat{zeros(api.MaxWords), alone(api.MaxShift - 2), append(zeros(api.MaxWords-1), half-1), append(api.Nat{1}, zeros(api.MaxWords-1)...)} {
		got, e := divide.Inverse(v)
		fails(t, []api.Nat{got}, e, api.ErrArg, "Inverse", v)
	}
}

// R2: the longest inverse, and divisors whose inverse is too long.
func TestInverseOfLongestNumbers(t *testing.T) {
	m := oracle.Mixer(31)
	for _, n := range []int{2047, 2048, 4094, 4095} {
		checkInverse(t, shapes(n, &m)[10])
	}
	for _, v := range shapes(4095, &m)[5:] {
		checkInverse(t, v)
	}
	for _, v := range shapes(api.MaxWords, &m)[5:] {
		got, e := divide.Inverse(v)
		fails(t, []api.Nat{got}, e, api.ErrSize, "Inverse", v)
	}
	got, e := divide.Inverse(append(ones(5), zeros(api.MaxWords-5)...))
	want, _ := divide.Inverse(ones(5))
	check(t, got, e, want, "Inverse of five words and zeros")
}
