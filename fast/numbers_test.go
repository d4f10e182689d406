package fast_test

import (
	"fmt"
	"slices"
	"testing"

	"reckoner/api"
	"reckoner/internal/oracle"
)

const (
	top  = oracle.Top
	half = oracle.Half
)

var (
	zeros = oracle.Zeros
	ones  = oracle.Ones
	alone = oracle.Alone
)

// shown is what arguments or results look like in a test's message: numbers with their first words, and how many these are.
func shown(args ...any) string {
	var s string
	for _, a := range args {
		switch x := a.(type) {
		case api.Nat:
			s += fmt.Sprintf(" %x (%d words)", oracle.Short(x), len(x))
		case api.Int:
			if x.Neg {
				s += " minus"
			}
			s += shown(x.Mag)
		case []api.Nat:
			s += shownList(x)
		case []api.Int:
			s += shownList(x)
		default:
			s += fmt.Sprint(" ", a)
		}
	}
	return s
}

// shownList is what a list looks like in a test's message.
func shownList[T any](l []T) string {
	s := fmt.Sprintf(" [%d:", len(l))
	for _, x := range l[:min(len(l), 9)] {
		s += shown(x)
	}
	return s + "]"
}

// check reports a result that is not the canonical number that is wanted.
func check(t *testing.T, got api.Nat, e api.Errno, want api.Nat, name string, args ...any) {
	t.Helper()
	if e != api.OK || !slices.Equal(got, want) {
		t.Errorf("%s%s: error %d,%s; want%s", name, shown(args...), e, shown(got), shown(want))
	}
}

// fails reports a result that is not this error beside a zero value.
func fails(t *testing.T, got api.Nat, e, want api.Errno, name string, args ...any) {
	t.Helper()
	if e != want || len(got) != 0 {
		t.Errorf("%s%s: error %d,%s; want error %d", name, shown(args...), e, shown(got), want)
	}
}

// same tells whether two lists have the same numbers, word by word.
func same(a, b []api.Nat) bool {
	return slices.EqualFunc(a, b, func(x, y api.Nat) bool { return slices.Equal(x, y) })
}

// shapes returns numbers of n words, n at least 1: in which carries go far, of which parts are 0 or the same, and mixed ones.
func shapes(n int, m *oracle.Mixer) []api.Nat {
	lower := (n + 1) / 2
	part := api.Nat(m.Row(lower))
	doubled := append(slices.Clone(part), part[:n-lower]...)
	doubled[n-1] |= 1
	gapped := api.Nat(m.Row(n))
	clear(gapped[n/3 : n-1])
	gapped[n-1] |= 1
	falling := append(ones(lower), zeros(n-lower)...)
	falling[n-1] |= 1
	return []api.Nat{ones(n), alone(64*n - 1), alone(64 * (n - 1)), doubled, gapped, falling, m.Row(n)}
}

// numbers returns numbers of all shapes and many lengths, some of them with words that are 0 at the end.
func numbers() []api.Nat {
	list := []api.Nat{nil, {0}, {1}, {top, 0}, {0, 0, 0, 0}, {5, 0, 0, 0, 0, 0, 0}}
	m := oracle.Mixer(23)
	for n := 1; n <= 10; n++ {
		list = append(list, shapes(n, &m)...)
	}
	return append(list, append(m.Row(9), 0, 0), append(ones(4), 0))
}

// longNumbers returns numbers of all shapes, of lengths about those at which ways take numbers apart and change.
func longNumbers() []api.Nat {
	var list []api.Nat
	m := oracle.Mixer(29)
	for _, n := range []int{12, 16, 17, 31, 33, 49, 50, 51, 63, 64, 65, 79, 80, 81, 99, 127, 150, 239, 241} {
		list = append(list, shapes(n, &m)...)
	}
	return list
}
