package root_test

import (
	"slices"
	"testing"

	"reckoner/api"
	"reckoner/nat"
	"reckoner/root"
)

// stepFrom returns floor((s + floor(x / s)) / 2).
func stepFrom(x, s api.Nat) api.Nat {
	q, _, _ := nat.DivMod(x, s)
	z, _ := nat.Right(plus(s, q), 1)
	return z
}

// checkSteps checks the steps for x from begin on: each by its definition, that they end where they must, and that the last one is the root and the others are greater (P6.5).
func checkSteps(t *testing.T, x, begin api.Nat) {
	t.Helper()
	got, e := root.Steps(x, begin)
	if e != api.OK || len(got) == 0 || !slices.Equal(got[0], nat.Trim(begin)) {
		t.Errorf("Steps%s: error %d, %d numbers", shown(x, begin), e, len(got))
		return
	}
	s, _, _ := root.Sqrt(x)
	for i, z := range got {
		after, last := stepFrom(x, z), i == len(got)-1
		if last != (nat.Cmp(after, z) >= 0) || !last && !slices.Equal(after, got[i+1]) {
			t.Errorf("Steps%s: step %d of %d, from%s to%s", shown(x, begin), i, len(got), shown(z), shown(after))
		}
		if last && !slices.Equal(z, s) || !last && nat.Cmp(z, s) <= 0 {
			t.Errorf("Steps%s: step %d of %d is%s", shown(x, begin), i, len(got), shown(z))
		}
	}
}

// P6.1: lists that are known.
func TestStepsOfSmallNumbers(t *testing.T) {
	for _, c := range []struct {
		x, begin uint64
		want     []uint64
	}{
		{100, 100, []uint64{100, 50, 26, 14, 10}}, {1, 1, []uint64{1}}, {1, 2, []uint64{2, 1}}, {1, 3, []uint64{3, 1}}, {1, 8, []uint64{8, 4, 2, 1}},
		{2, 1, []uint64{1}}, {3, 1, []uint64{1}}, {3, 2, []uint64{2, 1}}, {8, 2, []uint64{2}}, {8, 3, []uint64{3, 2}}, {9, 3, []uint64{3}}, {10, 3, []uint64{3}},
		{15, 3, []uint64{3}}, {15, 4, []uint64{4, 3}}, {top, 1<<32 - 1, []uint64{1<<32 - 1}}, {top, 1 << 32, []uint64{1 << 32, 1<<32 - 1}},
	} {
		got, e := root.Steps(api.Nat{c.x}, api.Nat{c.begin})
		if e != api.OK || len(got) != len(c.want) {
			t.Errorf("Steps(%d, %d): error %d,%s", c.x, c.begin, e, shown(got...))
			continue
		}
		for i, w := range c.want {
			check(t, got[i], e, api.Nat{w}, "Steps", api.Nat{c.x}, api.Nat{c.begin})
		}
	}
}

// P6.1, P6.5: from all numbers up to more than x on; and from those that are less than the root.
func TestStepsFromAllNumbers(t *testing.T) {
	for x := uint64(1); x < 200; x++ {
		for begin := range x + 20 {
			if (begin+1)*(begin+1) > x {
				checkSteps(t, api.Nat{x}, api.Nat{begin})
				continue
			}
			got, e := root.Steps(api.Nat{x}, api.Nat{begin})
			fails(t, got, e, api.ErrArg, "Steps", api.Nat{x}, api.Nat{begin})
		}
	}
}

// P6.1, P6.5: numbers of all lengths, from the root on, from near to it and from far above it.
func TestSteps(t *testing.T) {
	for i, x := range append(numbers(), mixed(2, 400)...) {
		if nat.Len(x) == 0 {
			continue
		}
		s, _, _ := root.Sqrt(x)
		far := [][]api.Nat{{alone(nat.Len(x))}, {append(slices.Clone(x), 0)}, {times(s, s)}, {ones(1 + i%64)}, {times(s, api.Nat{top})}}
		for _, begin := range append([]api.Nat{s, next(s), next(next(s)), plus(s, s), append(slices.Clone(s), 0)}, far[i%len(far)]...) {
			if nat.Cmp(begin, s) >= 0 {
				checkSteps(t, x, begin)
			}
		}
		for _, begin := range []api.Nat{less(s), nil, {0, 0}} {
			got, e := root.Steps(x, begin)
			fails(t, got, e, api.ErrArg, "Steps", x, begin)
		}
	}
}

// P6.1: the longest begin, with words of 0 behind it or without, and the greatest number that it may be less than.
func TestStepsOfLongNumbers(t *testing.T) {
	longestBegin := ones(64)
	square := times(longestBegin, longestBegin)
	for _, x := range []api.Nat{{1}, {5, 6}, ones(64), square, less(square), ones(128)} {
		checkSteps(t, x, longestBegin)
		checkSteps(t, x, append(slices.Clone(longestBegin), 0, 0))
		checkSteps(t, append(slices.Clone(x), 0), append(slices.Clone(longestBegin), zeros(api.MaxWords-64)...))
	}
	for _, x := range []api.Nat{{1}, ones(128), alone(128 * 64), ones(129), ones(api.MaxWords)} {
		for _, begin := range []api.Nat{alone(64 * 64), ones(65), ones(66), ones(api.MaxWords), append(ones(65), 0)} {
			got, e := root.Steps(x, begin)
			fails(t, got, e, api.ErrArg, "Steps", x, begin)
		}
	}
	for _, x := range []api.Nat{alone(128 * 64), next(alone(128 * 64)), ones(129), ones(api.MaxWords)} {
		got, e := root.Steps(x, longestBegin)
		fails(t, got, e, api.ErrArg, "Steps", x, longestBegin)
	}
}

// P6.1: an x that is 0.
func TestStepsOfZero(t *testing.T) {
	for _, x := range []api.Nat{nil, {0}, zeros(api.MaxWords)} {
		for _, begin := range []api.Nat{nil, {0}, {1}, {7, 8}, ones(64), ones(65)} {
			got, e := root.Steps(x, begin)
			fails(t, got, e, api.ErrArg, "Steps", x, begin)
		}
	}
}
