package divide_test

import (
	"slices"
	"testing"

	"reckoner/api"
	"reckoner/internal/oracle"
	"reckoner/internal/rows"
	"reckoner/nat"
)

const (
	top  = oracle.Top
	half = oracle.Half
)

var (
	zeros = oracle.Zeros
	ones  = oracle.Ones
	alone = oracle.Alone
	value = oracle.Value
	shown = oracle.Shown
)

// shapes returns numbers of n words, n at least 2: in which carries go far, whose highest words tell little of what is below them, and mixed ones. The second half of them are normal divisors.
func shapes(n int, m *oracle.Mixer) []api.Nat {
	low := n / 2
	shape := func(last, lower, lowest uint64) api.Nat {
		x := slices.Repeat(api.Nat{lower}, n)
		copy(x, slices.Repeat(api.Nat{lowest}, low))
		x[n-1] = last
		return x
	}
	mixed, normal := api.Nat(m.Row(n)), api.Nat(m.Row(n))
	mixed[n-1] = 1 + mixed[n-1]>>7
	normal[n-1] |= half
	return []api.Nat{
		shape(1, 0, 0), shape(1, 0, top), shape(half-1, top, 0), shape(1, top, top), mixed,
		shape(half, 0, 0), shape(half, 0, top), shape(half, top, top), shape(top, top, 0), shape(top, top, top), normal,
	}
}

// numbers returns numbers that are tried with one another: all that have one or two words at which carries begin and end, longer ones of all shapes, and some with words that are 0 at the end.
func numbers() []api.Nat {
	list := []api.Nat{nil, {0}, {0, 0, 0}, {2}, {10, 0}, {top, 0}, {3, half, 0, 0}}
	for _, w := range oracle.Edges() {
		list = append(list, api.Nat{w})
		for _, v := range oracle.Edges()[1:] {
			list = append(list, api.Nat{w, v})
		}
	}
	m := oracle.Mixer(19)
	for _, n := range []int{3, 4, 5, 6, 7} {
		list = append(list, shapes(n, &m)...)
	}
	return list
}

// longNumbers returns numbers of all shapes and many lengths.
func longNumbers() []api.Nat {
	var list []api.Nat
	m := oracle.Mixer(23)
	for _, n := range []int{8, 9, 13, 16, 17, 31, 40, 63, 64, 65, 90, 128, 201} {
		list = append(list, shapes(n, &m)...)
	}
	return list
}

// isZero tells whether the value of x is 0.
func isZero(x api.Nat) bool {
	return nat.Len(x) == 0
}

// plus returns x + y, of any length.
func plus(x, y api.Nat) api.Nat {
	z := zeros(max(len(x), len(y)) + 1)
	rows.Add(z, x, 1)
	rows.Add(z, y, 1)
	return rows.Used(z)
}

// less returns x - 1, for an x that is not 0.
func less(x api.Nat) api.Nat {
	z := slices.Clone(x)
	rows.Take(z, api.Nat{1}, 1)
	return rows.Used(z)
}

// times returns x y, of any length, by the schoolbook.
func times(x, y api.Nat) api.Nat {
	z := zeros(len(x) + len(y))
	for i, w := range y {
		rows.Add(z[i:], x, w)
	}
	return rows.Used(z)
}

// check reports a result that is not the canonical number that is wanted.
func check(t *testing.T, got api.Nat, e api.Errno, want api.Nat, name string, args ...api.Nat) {
	t.Helper()
	if e != api.OK || !slices.Equal(got, want) {
		t.Errorf("%s%s: error %d,%s; want%s", name, shown(args...), e, shown(got), shown(want))
	}
}

// fails reports a result that is not this error beside zero values.
func fails(t *testing.T, got []api.Nat, e, want api.Errno, name string, args ...api.Nat) {
	t.Helper()
	if e != want || slices.ContainsFunc(got, func(z api.Nat) bool { return len(z) > 0 }) {
		t.Errorf("%s%s: error %d,%s; want error %d", name, shown(args...), e, shown(got...), want)
	}
}

// The numbers that the tests are made of, and their arithmetic, by the oracle's.
func TestNumbers(t *testing.T) {
	list := numbers()
	for i, x := range list {
		y := list[(i*7+3)%len(list)]
		n, m := value(x...), value(y...)
		if value(times(x, y)...).Compare(n.Times(m)) != 0 || value(plus(x, y)...).Compare(n.Plus(m)) != 0 {
			t.Errorf("times or plus of%s", shown(x, y))
		}
		if !isZero(x) && value(less(x)...).Plus(value(1)).Compare(n) != 0 || isZero(x) != (n.Compare(value()) == 0) {
			t.Errorf("less or isZero of%s", shown(x))
		}
	}
}
