package root_test

import (
	"math/bits"
	"testing"

	"reckoner/api"
	"reckoner/internal/oracle"
	"reckoner/nat"
	"reckoner/root"
)

// checkSquareRoot checks the square root of x in all ways, and that all are the same (P6.5).
func checkSquareRoot(t *testing.T, x api.Nat) {
	t.Helper()
	s, rest, e := root.Sqrt(x)
	if e != api.OK || !isRoot(s, x, 2) || nat.Cmp(rest, plus(s, s)) > 0 {
		t.Errorf("Sqrt%s: error %d,%s", shown(x), e, shown(s, rest))
		return
	}
	if sum := plus(times(s, s), rest); nat.Cmp(sum, x) != 0 || len(rest) > 0 && rest[len(rest)-1] == 0 {
		t.Errorf("Sqrt%s leaves%s", shown(x), shown(rest))
	}
	s2, rest2, e := root.Halving(x)
	check(t, s2, e, s, "Halving", x)
	check(t, rest2, e, rest, "rest of Halving", x)
	s2, e = root.Newton(x)
	check(t, s2, e, s, "Newton", x)
	s2, rest2, e = root.Root(x, 2)
	check(t, s2, e, s, "Root by 2", x)
	check(t, rest2, e, rest, "rest of Root by 2", x)
}

// squaresBeside returns the square of s and the number below the next square, with the numbers beside both.
func squaresBeside(s api.Nat) []api.Nat {
	after := next(s)
	return append(beside(times(s, s)), append(beside(less(times(after, after))), plus(times(s, s), s))...)
}

// P6.1: numbers whose roots are known.
func TestSquareRootOfSmallNumbers(t *testing.T) {
	s := uint64(0)
	for x := range uint64(5000) {
		if x == (s+1)*(s+1) {
			s++
		}
		got, rest, e := root.Sqrt(api.Nat{x})
		check(t, got, e, nat.FromWord(s), "Sqrt", api.Nat{x})
		check(t, rest, e, nat.FromWord(x-s*s), "rest of Sqrt", api.Nat{x})
		checkSquareRoot(t, api.Nat{x})
	}
}

// P6.1, P6.5: numbers of all lengths, squares of them and numbers beside squares.
func TestSquareRoot(t *testing.T) {
	for _, x := range append(numbers(), mixed(1, 600)...) {
		checkSquareRoot(t, x)
		for _, y := range squaresBeside(x) {
			checkSquareRoot(t, y)
		}
	}
	for i, x := range longNumbers() {
		checkSquareRoot(t, x)
		checkSquareRoot(t, squaresBeside(x)[i%7])
	}
}

// P6.1, P6.5: roots around each power of 2, so that pieces of all lengths are cut, with all bits the same.
func TestSquareRootOfPowers(t *testing.T) {
	for n := range 300 {
		for _, s := range beside(alone(n)) {
			for _, x := range squaresBeside(s) {
				checkSquareRoot(t, x)
			}
		}
		for _, x := range append(beside(alone(n)), times(api.Nat{3}, alone(n))) {
			checkSquareRoot(t, x)
		}
	}
}

// P6.1, R2: the longest numbers, and the squares beside them.
func TestSquareRootOfLongestNumbers(t *testing.T) {
	list := longest()
	for _, s := range []api.Nat{ones(2048), append(zeros(2047), half), mixed(131071, 131071)[0], {1}} {
		list = append(list, times(s, s), less(times(s, s)), plus(times(s, s), plus(s, s)))
	}
	for _, x := range list {
		checkSquareRoot(t, x)
	}
}

// leaves tells whether x leaves, by m, what one of the squares from 0 to (m - 1) (m - 1) leaves.
func leaves(x api.Nat, m uint64) bool {
	var rest uint64
	for i := len(x) - 1; i >= 0; i-- {
		rest = bits.Rem64(rest, x[i], m)
	}
	for s := range m {
		if s*s%m == rest {
			return true
		}
	}
	return false
}

// checkMaybe checks Maybe by its definition, and that the square of x is Maybe, if there is one (P6.6).
func checkMaybe(t *testing.T, x api.Nat) {
	t.Helper()
	want := leaves(x, 64) && leaves(x, 63) && leaves(x, 65) && leaves(x, 11)
	if got, e := root.Maybe(x); e != api.OK || got != want {
		t.Errorf("Maybe%s: error %d, %v", shown(x), e, got)
	}
	square := times(x, x)
	if got, e := root.Maybe(square); len(square) <= api.MaxWords && (e != api.OK || !got) {
		t.Errorf("Maybe%s: error %d, but it is a square", shown(square), e)
	}
}

// checkIsSquare checks IsSquare of x, and that it is so just if nothing is left by Sqrt (P6.6).
func checkIsSquare(t *testing.T, x api.Nat, want bool) {
	t.Helper()
	if got, e := root.IsSquare(x); e != api.OK || got != want {
		t.Errorf("IsSquare%s: error %d, %v", shown(x), e, got)
	}
	if _, rest, e := root.Sqrt(x); e != api.OK || (len(rest) == 0) != want {
		t.Errorf("Sqrt%s leaves%s", shown(x), shown(rest))
	}
}

// P6.3, P6.6: all small numbers, with each remainder by each of the four.
func TestIsSquareOfSmallNumbers(t *testing.T) {
	s := uint64(0)
	for x := range uint64(20000) {
		for s*s < x {
			s++
		}
		checkIsSquare(t, api.Nat{x}, s*s == x)
		checkMaybe(t, api.Nat{x})
	}
}

// P6.3, P6.6: long numbers: squares, numbers beside squares, which are none, and numbers of all shapes.
func TestIsSquare(t *testing.T) {
	for _, s := range append(numbers(), append(mixed(1, 300), longNumbers()[:50]...)...) {
		checkMaybe(t, s)
		square := times(s, s)
		checkIsSquare(t, square, true)
		checkIsSquare(t, append(square, 0, 0), true)
		if nat.Len(s) > 0 {
			after := next(square)
			checkIsSquare(t, after, false)
			checkMaybe(t, after)
			checkIsSquare(t, times(square, api.Nat{2}), false)
			checkIsSquare(t, less(square), nat.Len(s) == 1)
			checkIsSquare(t, plus(square, plus(s, s)), false)
		}
	}
}

// P6.3: numbers that are no squares and are Maybe: they leave what a square leaves by each of the four.
func TestMaybeOfOthers(t *testing.T) {
	all := api.Nat{64 * 63 * 65 * 11}
	for _, s := range append(mixed(30, 200), api.Nat{5}) {
		for _, f := range []uint64{1, 2, 1000003, top} {
			x := plus(times(s, s), times(all, api.Nat{f}))
			if got, e := root.Maybe(x); e != api.OK || !got {
				t.Errorf("Maybe%s: error %d", shown(x), e)
			}
			r, _, _ := root.Sqrt(x)
			checkIsSquare(t, x, nat.Cmp(times(r, r), x) == 0)
		}
	}
	// None of the four may be left out: what is no square by just one of them.
	for _, x := range []uint64{2, 3, 5, 6, 7, 8, 10} {
		checkMaybe(t, api.Nat{x})
	}
	m := oracle.Mixer(113)
	for _, alone := range []uint64{64, 63, 65, 11} {
		found := false
		for range 20000 {
			x := api.Nat{m.Next(), m.Next()}
			only := !leaves(x, alone)
			for _, other := range []uint64{64, 63, 65, 11} {
				only = only && (other == alone || leaves(x, other))
			}
			if only {
				found = true
				checkMaybe(t, x)
			}
		}
		if !found {
			t.Errorf("no number that only %d tells to be no square", alone)
		}
	}
}

// P6.3, R2: the longest numbers.
func TestIsSquareOfLongestNumbers(t *testing.T) {
	for _, x := range longest() {
		checkMaybe(t, x)
	}
	for _, s := range []api.Nat{ones(2048), append(zeros(2047), half), mixed(131072, 131072)[0]} {
		checkIsSquare(t, times(s, s), true)
		checkIsSquare(t, less(times(s, s)), false)
		checkIsSquare(t, next(times(s, s)), false)
	}
	checkIsSquare(t, zeros(api.MaxWords), true)
	checkIsSquare(t, ones(api.MaxWords), false)
	checkIsSquare(t, alone(api.MaxShift-2), true)
	checkIsSquare(t, alone(api.MaxShift-1), false)
}
