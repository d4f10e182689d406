package nat_test

import (
	"fmt"
	"slices"
	"testing"

	"reckoner/api"
	"reckoner/internal/oracle"
)

const (
	top  = oracle.Top
	half = oracle.Half
)

var (
	value = oracle.Value
	power = oracle.Power
	edges = oracle.Edges
)

// zeros returns a 0 of n words.
func zeros(n int) api.Nat {
	return make(api.Nat, n)
}

// ones returns 2^(64 n) - 1.
func ones(n int) api.Nat {
	return slices.Repeat(api.Nat{top}, n)
}

// alone returns 2^s.
func alone(s int) api.Nat {
	return power(s).Words()
}

// numbers returns numbers that are tried with one another: all that have one or two edges as words, longer ones in which carries go far, and mixed ones, some of them with words that are 0 at the end.
func numbers() []api.Nat {
	list := []api.Nat{nil, {}, {0, 0, 0}, {1, 0}, {top, 0}, {3, half, 0, 0}}
	for _, w := range edges() {
		list = append(list, api.Nat{w})
		for _, v := range edges()[1:] {
			list = append(list, api.Nat{w, v})
		}
	}
	list = append(list, api.Nat{0, 0, 1}, api.Nat{1, 0, half}, api.Nat{0, top, 1}, api.Nat{top, 0, top}, api.Nat{top, top, half - 1})
	m := oracle.Mixer(17)
	for _, n := range []int{3, 4, 5, 9} {
		low := zeros(n)
		low[n-1] = 1
		list = append(list, ones(n), low, m.Row(n), m.Row(n), append(m.Row(n), 0))
	}
	return append(list, m.Row(1), m.Row(2))
}

// eachPair gives all pairs of numbers.
func eachPair(f func(x, y api.Nat)) {
	for _, x := range numbers() {
		for _, y := range numbers() {
			f(x, y)
		}
	}
}

// shown is what arguments look like in a test's message.
func shown(args []any) string {
	var s string
	for _, a := range args {
		if x, ok := a.(api.Nat); ok {
			s += fmt.Sprintf(" %x (%d words)", oracle.Short(x), len(x))
		} else {
			s += fmt.Sprint(" ", a)
		}
	}
	return s
}

// check reports a result that is not the canonical number with the value that is wanted.
func check(t *testing.T, got api.Nat, e api.Errno, want oracle.Number, name string, args ...any) {
	t.Helper()
	if w := want.Words(); e != api.OK || !slices.Equal(got, w) {
		t.Errorf("%s%s: error %d,%s; want%s", name, shown(args), e, shown([]any{got}), shown([]any{api.Nat(w)}))
	}
}

// fails reports a result that is not this error beside a zero value.
func fails(t *testing.T, got api.Nat, e, want api.Errno, name string, args ...any) {
	t.Helper()
	if e != want || len(got) != 0 {
		t.Errorf("%s%s: error %d,%s; want error %d", name, shown(args), e, shown([]any{got}), want)
	}
}
