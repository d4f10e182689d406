package rows_test

import (
	"slices"
	"testing"

	"reckoner/api"
	"reckoner/internal/oracle"
	"reckoner/internal/rows"
)

// Sizes are counted with words that are 0.
func TestCheckSizes(t *testing.T) {
	most, long := oracle.Ones(api.MaxWords), oracle.Zeros(api.MaxWords+1)
	for _, l := range [][]api.Nat{nil, {nil}, {most, nil, most}} {
		if e := rows.CheckSizes(l...); e != api.OK {
			t.Errorf("%d numbers that are not too long: error %d", len(l), e)
		}
	}
	for _, l := range [][]api.Nat{{long}, {nil, most, long}, {long, nil}} {
		if e := rows.CheckSizes(l...); e != api.ErrSize {
			t.Errorf("%d numbers, one of them too long: error %d", len(l), e)
		}
	}
}

// A number keeps its memory, without zeros at its end.
func TestUsed(t *testing.T) {
	for _, c := range []struct {
		x    api.Nat
		want int
	}{{nil, 0}, {api.Nat{0, 0}, 0}, {api.Nat{5}, 1}, {api.Nat{0, 5, 0, 0}, 2}, {oracle.Ones(9), 9}} {
		got := rows.Used(c.x)
		if !slices.Equal(got, c.x[:c.want]) || len(got) > 0 && &got[0] != &c.x[0] {
			t.Errorf("Used of %x: %x", c.x, got)
		}
	}
}

// Sums and differences modulo what a row holds, with what is beyond it.
func TestAddAndTake(t *testing.T) {
	m := oracle.Mixer(3)
	for n := range 6 {
		for k := range n + 1 {
			for _, w := range append(oracle.Edges(), 2, m.Next()) {
				for _, z := range []api.Nat{oracle.Zeros(n), oracle.Ones(n), m.Row(n)} {
					for _, x := range []api.Nat{oracle.Ones(k), m.Row(k)} {
						term := oracle.Value(x...).Times(oracle.Value(w))
						sum := slices.Clone(z)
						carry := rows.Add(sum, x, w)
						if oracle.Value(append(sum, carry)...).Compare(oracle.Value(z...).Plus(term)) != 0 {
							t.Errorf("Add of %x times %x to %x: %x, %x", x, w, z, sum, carry)
						}
						rest := slices.Clone(z)
						borrow := rows.Take(rest, x, w)
						if oracle.Value(rest...).Plus(term).Compare(oracle.Value(borrow).Above(n).Plus(oracle.Value(z...))) != 0 {
							t.Errorf("Take of %x times %x from %x: %x, %x", x, w, z, rest, borrow)
						}
					}
				}
			}
		}
	}
}
