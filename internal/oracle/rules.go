package oracle

import (
	"slices"
	"strconv"

	"reckoner/api"
)

// Reporter is what a check reports to: a test.
type Reporter interface {
	Helper()
	Errorf(format string, args ...any)
}

// Call is a call of a function with so many numbers, its other arguments chosen. It returns all numbers of the result; other results are among them as numbers.
type Call struct {
	Name    string
	Numbers int
	Do      func(l []api.Nat) ([]api.Nat, api.Errno)
}

// OfTwo is a call of a function of two numbers.
func OfTwo(name string, f func(x, y api.Nat) ([]api.Nat, api.Errno)) Call {
	return Call{name, 2, func(l []api.Nat) ([]api.Nat, api.Errno) { return f(l[0], l[1]) }}
}

// Truth is b among the numbers of a result.
func Truth(b bool) api.Nat {
	if b {
		return api.Nat{1}
	}
	return nil
}

// Shown is what numbers look like in a test's message: their first words, and how many words they have.
func Shown(l ...api.Nat) string {
	var s string
	for _, x := range l {
		s += " ["
		for _, w := range Short(x) {
			s += strconv.FormatUint(w, 16) + " "
		}
		s += "of " + strconv.Itoa(len(x)) + "]"
	}
	return s
}

// Copies returns copies of numbers.
func Copies(l []api.Nat) []api.Nat {
	z := make([]api.Nat, len(l))
	for i, x := range l {
		z[i] = slices.Clone(x)
	}
	return z
}

// Same tells whether two lists have the same numbers, word by word.
func Same(a, b []api.Nat) bool {
	return slices.EqualFunc(a, b, func(x, y api.Nat) bool { return slices.Equal(x, y) })
}

// Check reports a result that is not the canonical number that is wanted.
func Check(t Reporter, got api.Nat, e api.Errno, want api.Nat, name string, args ...api.Nat) {
	t.Helper()
	if e != api.OK || !slices.Equal(got, want) {
		t.Errorf("%s%s: error %d,%s; want%s", name, Shown(args...), e, Shown(got), Shown(want))
	}
}

// Fails reports a result that is not this error beside zero values.
func Fails(t Reporter, got []api.Nat, e, want api.Errno, name string, args ...api.Nat) {
	t.Helper()
	if e != want || slices.ContainsFunc(got, func(z api.Nat) bool { return len(z) > 0 }) {
		t.Errorf("%s%s: error %d,%s; want error %d", name, Shown(args...), e, Shown(got...), want)
	}
}

// spoil overwrites the memory of numbers, also beyond their ends.
func spoil(l ...api.Nat) {
	for _, x := range l {
		x = x[:cap(x)]
		for i := range x {
			x[i] = 0xabcdef
		}
	}
}

// CheckResult checks that a call gives canonical numbers, or an error and no number (R3).
func (c Call) CheckResult(t Reporter, l []api.Nat) {
	t.Helper()
	got, e := c.Do(l)
	for _, z := range got {
		if len(z) > 0 && (e != api.OK || z[len(z)-1] == 0) {
			t.Errorf("%s%s: error %d,%s", c.Name, Shown(l...), e, Shown(got...))
		}
	}
}

// CheckTooLong checks that a call returns ErrSize if one of its numbers has too many words, also if all these are 0 (R2).
func (c Call) CheckTooLong(t Reporter, l []api.Nat) {
	t.Helper()
	for i := range l {
		for _, n := range []int{api.MaxWords + 1, 3 * api.MaxWords} {
			for _, long := range []api.Nat{Zeros(n), Ones(n), append(api.Nat{1}, Zeros(n)...)} {
				with := slices.Clone(l)
				with[i] = long
				got, e := c.Do(with)
				Fails(t, got, e, api.ErrSize, c.Name, with...)
			}
		}
	}
}

// CheckZeros checks that words of 0 at the ends of numbers make no difference.
func (c Call) CheckZeros(t Reporter, l []api.Nat) {
	t.Helper()
	want, e := c.Do(l)
	all := Copies(l)
	for i, x := range l {
		with := slices.Clone(l)
		with[i] = append(slices.Clone(x), Zeros(api.MaxWords-len(x))...)
		all[i] = with[i]
		for _, padded := range [][]api.Nat{with, all} {
			if got, e2 := c.Do(padded); e2 != e || !Same(got, want) {
				t.Errorf("%s%s: error %d,%s; without zeros error %d,%s", c.Name, Shown(padded...), e2, Shown(got...), e, Shown(want...))
			}
		}
	}
}

// CheckMemory checks that a call changes none of its arguments, shares no memory with them nor between its results, does not depend on what lies beyond a number, and gives the same when it is made again (R4, R7).
func (c Call) CheckMemory(t Reporter, l []api.Nat) {
	t.Helper()
	inner, outer := make([]api.Nat, len(l)), make([]api.Nat, len(l))
	for i, x := range l {
		inner[i], outer[i] = Framed(x)
	}
	kept := Copies(outer)
	got, e := c.Do(inner)
	want := Copies(got)
	for i := range got {
		spoil(got[i])
		if !Same(got[i+1:], want[i+1:]) {
			t.Errorf("%s%s: results share memory", c.Name, Shown(l...))
		}
	}
	if !Same(outer, kept) {
		t.Errorf("%s%s changes its arguments, or shares memory with them", c.Name, Shown(l...))
	}
	args := Copies(l)
	got, e2 := c.Do(args)
	spoil(args...)
	if e2 != e || !Same(got, want) {
		t.Errorf("%s%s: error %d,%s; before it was error %d,%s", c.Name, Shown(l...), e2, Shown(got...), e, Shown(want...))
	}
}

// CheckShared checks that a call gives the same if its numbers are in the same memory: beginnings of a row, or all one of them.
func (c Call) CheckShared(t Reporter, row api.Nat) {
	t.Helper()
	kept := slices.Clone(row)
	for n := 1; n <= len(row); n += 1 + n/2 {
		l := make([]api.Nat, c.Numbers)
		for _, step := range []int{0, 1} {
			for i := range l {
				l[i] = row[:max(0, n-i*step)]
			}
			want, e := c.Do(Copies(l))
			got, e2 := c.Do(l)
			if e2 != e || !Same(got, want) || !slices.Equal(row, kept) {
				t.Errorf("%s%s of shared memory: error %d,%s; want error %d,%s", c.Name, Shown(l...), e2, Shown(got...), e, Shown(want...))
			}
		}
	}
}

// lists returns lists of so many of these numbers: each number at each place, with itself and with others.
func lists(numbers int, some []api.Nat) [][]api.Nat {
	var list [][]api.Nat
	for i := range some {
		for _, step := range []int{0, 1, 4, 9}[:min(4, 1+3*(numbers-1))] {
			l := make([]api.Nat, numbers)
			for k := range l {
				l[k] = some[(i+k*step)%len(some)]
			}
			list = append(list, l)
		}
	}
	return list
}

// CheckRules checks all these rules of a call, with lists of some numbers.
func (c Call) CheckRules(t Reporter, some []api.Nat) {
	t.Helper()
	for i, l := range lists(c.Numbers, some) {
		c.CheckResult(t, l)
		c.CheckMemory(t, l)
		if i%4 == 0 {
			c.CheckTooLong(t, l)
			c.CheckZeros(t, l)
		}
	}
	mixer := Mixer(149)
	c.CheckShared(t, mixer.Row(60))
}
