package root_test

import (
	"slices"
	"testing"

	"reckoner/api"
	"reckoner/internal/oracle"
	"reckoner/nat"
)

const (
	top  = oracle.Top
	half = oracle.Half
)

var (
	zeros = oracle.Zeros
	ones  = oracle.Ones
	alone = oracle.Alone
	plus  = oracle.Plus
	less  = oracle.Less
	times = oracle.Times
	pow   = oracle.Pow
	shown = oracle.Shown
	check = oracle.Check
	fails = oracle.Fails
)

// numbers returns numbers of all lengths up to some words: 0, also with words that are 0, all that have one or two words at which carries begin and end, and longer ones.
func numbers() []api.Nat {
	list := []api.Nat{nil, {0}, {0, 0, 0}, {2}, {10, 0}, {top, 0}, {3, half, 0, 0}}
	for _, w := range oracle.Edges() {
		list = append(list, api.Nat{w})
		for _, v := range oracle.Edges()[1:] {
			list = append(list, api.Nat{w, v})
		}
	}
	m := oracle.Mixer(101)
	for _, n := range []int{3, 4, 5, 7, 8, 13} {
		list = append(list, oracle.Shapes(n, &m)...)
	}
	return list
}

// longNumbers returns numbers of many lengths.
func longNumbers() []api.Nat {
	var list []api.Nat
	m := oracle.Mixer(103)
	for _, n := range []int{16, 17, 31, 63, 64, 65, 90, 129, 200} {
		list = append(list, oracle.Shapes(n, &m)...)
	}
	return list
}

// mixed returns a number of each length in bits from low to high.
func mixed(low, high int) []api.Nat {
	var list []api.Nat
	m := oracle.Mixer(107)
	for n := low; n <= high; n++ {
		x := api.Nat(m.Row((n + 63) / 64))
		last := &x[len(x)-1]
		*last = (*last | half) >> (-n & 63)
		list = append(list, x)
	}
	return list
}

// longest returns numbers of as many words as there may be.
func longest() []api.Nat {
	m := oracle.Mixer(109)
	return append(oracle.Shapes(api.MaxWords, &m), zeros(api.MaxWords), append(api.Nat{99}, zeros(api.MaxWords-1)...))
}

// beside returns x - 1, x and x + 1, as far as there are.
func beside(x api.Nat) []api.Nat {
	list := []api.Nat{x, plus(x, api.Nat{1})}
	if nat.Len(x) > 0 {
		list = append(list, less(x))
	}
	return list
}

// next returns x + 1.
func next(x api.Nat) api.Nat {
	return plus(x, api.Nat{1})
}

// powerAndNumber returns -1, 0 or 1, as s^k is less than, equal to or greater than x.
func powerAndNumber(s api.Nat, k int, x api.Nat) int {
	if n := nat.Len(s); n > 1 && (n-1)*k >= nat.Len(x) {
		return 1
	}
	if n := nat.Len(s); n < 2 {
		k = min(k, 1)
	}
	return nat.Cmp(pow(s, k), x)
}

// isRoot tells whether s is the greatest number with s^k <= x, canonical.
func isRoot(s, x api.Nat, k int) bool {
	return slices.Equal(s, nat.Trim(s)) && powerAndNumber(s, k, x) <= 0 && powerAndNumber(next(s), k, x) > 0
}

// The numbers that the tests are made of, and how powers are compared.
func TestNumbers(t *testing.T) {
	for i, x := range mixed(1, 200) {
		if nat.Len(x) != i+1 {
			t.Errorf("mixed: %d has %d bits", i, nat.Len(x))
		}
	}
	for s := range uint64(12) {
		for k := range 12 {
			want := api.Nat{1}
			for range k {
				want = times(want, api.Nat{s})
			}
			for _, x := range beside(want) {
				if got := powerAndNumber(nat.FromWord(s), k, x); k > 0 && got != nat.Cmp(want, x) {
					t.Errorf("%d^%d and%s: %d", s, k, shown(x), got)
				}
			}
		}
	}
	if !isRoot(api.Nat{9}, api.Nat{99}, 2) || isRoot(api.Nat{9, 0}, api.Nat{99}, 2) || isRoot(api.Nat{10}, api.Nat{99}, 2) || isRoot(api.Nat{8}, api.Nat{99}, 2) {
		t.Error("isRoot of 99")
	}
}
