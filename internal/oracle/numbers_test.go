package oracle_test

import (
	"slices"
	"testing"

	"reckoner/api"
	"reckoner/internal/oracle"
)

// Arithmetic word by word, by that digit by digit.
func TestByWords(t *testing.T) {
	m := oracle.Mixer(7)
	list := []api.Nat{nil, {0, 0}, {1}, {oracle.Top}, {3, 0}}
	for _, n := range []int{2, 3, 5} {
		list = append(list, oracle.Shapes(n, &m)...)
	}
	for _, x := range list {
		n := oracle.Value(x...)
		for _, y := range list {
			if got := oracle.Plus(x, y); !slices.Equal(got, n.Plus(oracle.Value(y...)).Words()) {
				t.Errorf("Plus%s:%s", oracle.Shown(x, y), oracle.Shown(got))
			}
			if got := oracle.Times(x, y); !slices.Equal(got, n.Times(oracle.Value(y...)).Words()) {
				t.Errorf("Times%s:%s", oracle.Shown(x, y), oracle.Shown(got))
			}
		}
		if got := n.Words(); len(got) > 0 && !slices.Equal(oracle.Less(x), n.Minus(oracle.Value(1)).Words()) {
			t.Errorf("Less%s:%s", oracle.Shown(x), oracle.Shown(oracle.Less(x)))
		}
		want := oracle.Value(1)
		for k := range 9 {
			if got := oracle.Pow(x, k); !slices.Equal(got, want.Words()) {
				t.Errorf("Pow%s, %d:%s", oracle.Shown(x), k, oracle.Shown(got))
			}
			want = want.Times(n)
		}
	}
}

// Shapes have as many words as is asked for, and are all different.
func TestShapes(t *testing.T) {
	m := oracle.Mixer(9)
	for n := 2; n < 9; n++ {
		list := oracle.Shapes(n, &m)
		for i, x := range list {
			if len(x) != n || x[n-1] == 0 || (x[n-1] >= oracle.Half) != (i >= len(list)/2) {
				t.Errorf("shape %d of %d words:%s", i, n, oracle.Shown(x))
			}
			for _, y := range list[:i] {
				if slices.Equal(x, y) {
					t.Errorf("shapes of %d words, twice:%s", n, oracle.Shown(x))
				}
			}
		}
	}
}

// Samples are of many lengths up to the greatest one, and no two of them are the same word by word.
func TestSamples(t *testing.T) {
	m := oracle.Mixer(11)
	var lengths [9]int
	list := oracle.Samples(8, &m)
	for i, x := range list {
		lengths[len(x)]++
		for _, y := range list[:i] {
			if slices.Equal(x, y) {
				t.Errorf("samples, twice:%s", oracle.Shown(x))
			}
		}
	}
	for n, many := range lengths {
		if (many > 0) != (n <= 4 || n%2 == 0) {
			t.Errorf("%d samples of %d words", many, n)
		}
	}
}
