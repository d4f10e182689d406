package fast_test

import (
	"slices"
	"strconv"
	"testing"

	"reckoner/api"
	"reckoner/fast"
	"reckoner/internal/oracle"
	"reckoner/nat"
)

// call is a call with two numbers, or one, its other arguments chosen. It returns all numbers of the result.
type call struct {
	name    string
	numbers int
	do      func(x, y api.Nat) ([]api.Nat, api.Errno)
}

// sizes returns the numbers of integers.
func sizes(l ...api.Int) []api.Nat {
	var list []api.Nat
	for _, x := range l {
		list = append(list, x.Mag)
	}
	return list
}

// product is a call of a function of two numbers.
func product(name string, f func(x, y api.Nat) (api.Nat, api.Errno)) call {
	return call{name, 2, func(x, y api.Nat) ([]api.Nat, api.Errno) {
		z, e := f(x, y)
		return []api.Nat{z}, e
	}}
}

// callsOfPieces are calls of Split and Join.
func callsOfPieces() []call {
	var list []call
	for _, n := range []int{-1, 0, 1, 2, 3, 1000, 1001} {
		list = append(list,
			call{"Split by " + strconv.Itoa(n), 1, func(x, _ api.Nat) ([]api.Nat, api.Errno) { return fast.Split(x, n) }},
			product("Join by "+strconv.Itoa(n), func(x, y api.Nat) (api.Nat, api.Errno) { return fast.Join([]api.Nat{x, y, x}, n) }),
			product("Join of many by "+strconv.Itoa(n), func(x, y api.Nat) (api.Nat, api.Errno) {
				return fast.Join(append(make([]api.Nat, 4999), x, y), n)
			}))
	}
	return append(list, call{"Join of one", 1, func(x, _ api.Nat) ([]api.Nat, api.Errno) {
		z, e := fast.Join([]api.Nat{x}, 1)
		return []api.Nat{z}, e
	}})
}

// callsOfValues are calls of Value, Five and Back.
func callsOfValues() []call {
	var list []call
	for _, at := range []int{-11, -2, -1, 0, 1, 10, 11} {
		list = append(list,
			product("Value at "+strconv.Itoa(at), func(x, y api.Nat) (api.Nat, api.Errno) {
				z, e := fast.Value([]api.Int{{Mag: x}, {Neg: true, Mag: y}}, at)
				return z.Mag, e
			}),
			product("Value of many at "+strconv.Itoa(at), func(x, y api.Nat) (api.Nat, api.Errno) {
				z, e := fast.Value(append(make([]api.Int, 99), api.Int{Mag: x}, api.Int{Mag: y}), at)
				return z.Mag, e
			}))
	}
	for _, n := range []int{2, 3, 5, 6} {
		list = append(list, call{"Five of " + strconv.Itoa(n), 2, func(x, y api.Nat) ([]api.Nat, api.Errno) {
			l := make([]api.Int, n)
			l[0], l[n-1] = api.Int{Mag: x}, api.Int{Neg: true, Mag: y}
			v, e := fast.Five(l)
			return sizes(v[:]...), e
		}})
	}
	return append(list,
		call{"Five of one", 1, func(x, _ api.Nat) ([]api.Nat, api.Errno) {
			v, e := fast.Five([]api.Int{{Mag: x}})
			return sizes(v[:]...), e
		}},
		call{"Back of a constant", 1, func(x, _ api.Nat) ([]api.Nat, api.Errno) {
			c, e := fast.Back([5]api.Int{{Mag: x}, {Mag: x}, {Mag: x}, {Mag: x}, {}})
			return sizes(c[:]...), e
		}},
		call{"Back", 2, func(x, y api.Nat) ([]api.Nat, api.Errno) {
			c, e := fast.Back([5]api.Int{{Mag: x}, {Mag: y}, {Mag: y}, {Mag: y}, {Mag: x}})
			return sizes(c[:]...), e
		}},
		call{"Back of what differs", 2, func(x, y api.Nat) ([]api.Nat, api.Errno) {
			c, e := fast.Back([5]api.Int{{}, {Mag: x}, {}, {Mag: y}, {}})
			return sizes(c[:]...), e
		}},
	)
}

// calls are calls of all functions that take numbers.
func calls() []call {
	list := append(callsOfPieces(), callsOfValues()...)
	for _, least := range []int{2, 3, 64, 65} {
		for _, w := range ways(least) {
			list = append(list, product(w.name+" "+strconv.Itoa(least), w.times))
		}
		list = append(list, call{"Square " + strconv.Itoa(least), 1, func(x, _ api.Nat) ([]api.Nat, api.Errno) {
			z, e := fast.Square(x, least)
			return []api.Nat{z}, e
		}})
	}
	for _, n := range []int{-1, 0, 1, 4, 4096, 4097} {
		list = append(list, product("LowMul to "+strconv.Itoa(n), func(x, y api.Nat) (api.Nat, api.Errno) { return fast.LowMul(x, y, n) }))
	}
	return list
}

// failsAll reports results that are not this error beside zero values.
func failsAll(t *testing.T, got []api.Nat, e, want api.Errno, name string, args ...any) {
	t.Helper()
	if e != want || slices.ContainsFunc(got, func(x api.Nat) bool { return len(x) > 0 }) {
		t.Errorf("%s%s: error %d,%s; want error %d", name, shown(args...), e, shown(got), want)
	}
}

// R2: numbers with too many words come before all other errors, whichever number it is and also if all these words are 0.
func TestTooManyWords(t *testing.T) {
	for _, n := range []int{api.MaxWords + 1, 3 * api.MaxWords} {
		for _, long := range []api.Nat{zeros(n), ones(n), append(api.Nat{1}, zeros(n)...)} {
			for _, c := range calls() {
				for _, other := range []api.Nat{nil, {0}, {5}, ones(9), ones(api.MaxWords), long} {
					got, e := c.do(long, other)
					failsAll(t, got, e, api.ErrSize, c.name, long, other)
					if c.numbers == 2 {
						got, e = c.do(other, long)
						failsAll(t, got, e, api.ErrSize, c.name, other, long)
					}
				}
			}
		}
	}
}

// R2: such a number may be any of a list, or of five values.
func TestTooManyWordsInLists(t *testing.T) {
	long := zeros(api.MaxWords + 1)
	for i := range 6 {
		l := make([]api.Int, 6)
		l[i].Mag = long
		v, e := fast.Five(l)
		failsInts(t, v[:], e, api.ErrSize, "Five", l)
		z, e := fast.Value(l, 11)
		failsInts(t, []api.Int{z}, e, api.ErrSize, "Value", l)
		if i < 5 {
			c, e := fast.Back([5]api.Int(l[:5]))
			failsInts(t, c[:], e, api.ErrSize, "Back", l[:5])
		}
	}
	for _, i := range []int{0, 1, 4999, 5000, 6000} {
		l := make([]api.Nat, i+1)
		l[i] = long
		got, e := fast.Join(l, 0)
		fails(t, got, e, api.ErrSize, "Join", l)
	}
	for _, i := range []int{0, 99, 100, 5000} {
		l := make([]api.Int, i+1)
		l[i].Mag = long
		z, e := fast.Value(l, 0)
		failsInts(t, []api.Int{z}, e, api.ErrSize, "Value", l)
	}
}

// Words that are 0 at the end do not change a value, also if there are as many as there may be.
func TestWordsOfZero(t *testing.T) {
	padded := func(x api.Nat) api.Nat {
		return append(slices.Clone(x), zeros(api.MaxWords-len(x))...)
	}
	for _, c := range calls() {
		for _, x := range []api.Nat{nil, {1}, {6}, {top, 7}, ones(5), {0, 0, half}} {
			for _, y := range []api.Nat{nil, {3}, {9, 1}, ones(4)} {
				want, e := c.do(x, y)
				for _, p := range [][2]api.Nat{{padded(x), y}, {x, padded(y)}, {padded(x), padded(y)}} {
					if got, e2 := c.do(p[0], p[1]); e2 != e || !same(got, want) {
						t.Errorf("%s%s: %x, %d, want %x, %d", c.name, shown(p[0], p[1]), got, e2, want, e)
					}
				}
			}
		}
	}
}

// All results are canonical.
func TestCanonical(t *testing.T) {
	for _, c := range calls() {
		for _, x := range append(numbers(), ones(60)) {
			for _, y := range []api.Nat{nil, {0, 0}, {1}, {top, 0}, ones(4), {0, 0, 0, 6, 0}, x} {
				got, e := c.do(x, y)
				for _, z := range got {
					if len(z) > 0 && (e != api.OK || z[len(z)-1] == 0) {
						t.Errorf("%s%s: error %d,%s", c.name, shown(x, y), e, shown(z))
					}
				}
			}
		}
	}
}

// copies returns copies of numbers.
func copies(l []api.Nat) []api.Nat {
	var list []api.Nat
	for _, x := range l {
		list = append(list, slices.Clone(x))
	}
	return list
}

// spoil overwrites the memory of a number, also beyond its end.
func spoil(x api.Nat) {
	x = x[:cap(x)]
	for i := range x {
		x[i] = 0xabcdef
	}
}

// R4, R7: arguments are not changed, results are new memory, what lies beyond a number does not matter, and a call that is made again gives the same.
func TestMemory(t *testing.T) {
	m := oracle.Mixer(2)
	for _, c := range calls() {
		for _, n := range [][2]int{{0, 0}, {1, 0}, {0, 1}, {1, 1}, {3, 1}, {1, 3}, {4, 4}, {7, 6}, {70, 60}, {260, 90}} {
			x, y := api.Nat(m.Row(n[0])), api.Nat(append(m.Row(n[1]), 0))
			wasX, wasY := slices.Clone(x), slices.Clone(y)
			inX, outX := oracle.Framed(x)
			inY, outY := oracle.Framed(y)
			keptX, keptY := slices.Clone(outX), slices.Clone(outY)
			got, e := c.do(inX, inY)
			want := copies(got)
			for i := range got {
				spoil(got[i])
				for j := i + 1; j < len(got); j++ {
					if !slices.Equal(got[j], want[j]) {
						t.Errorf("%s%s: results share memory", c.name, shown(x, y))
					}
				}
			}
			if !slices.Equal(outX, keptX) || !slices.Equal(outY, keptY) {
				t.Errorf("%s%s changes its arguments, or shares memory with them", c.name, shown(x, y))
			}
			got, e2 := c.do(x, y)
			spoil(x)
			spoil(y)
			if e2 != e || !same(got, want) {
				t.Errorf("%s%s is not what it was", c.name, shown(wasX, wasY))
			}
		}
	}
}

// R4: a number may be both arguments, and numbers may overlap.
func TestSharedArguments(t *testing.T) {
	m := oracle.Mixer(3)
	all := api.Nat(m.Row(150))
	for _, c := range calls() {
		for _, n := range []int{4, 100} {
			for i := range 4 {
				was := slices.Clone(all)
				got, e := c.do(all[:n], all[i:i+n])
				want, e2 := c.do(slices.Clone(all[:n]), slices.Clone(all[i:i+n]))
				if e != e2 || !same(got, want) || !slices.Equal(all, was) {
					t.Errorf("%s with numbers that overlap at %d: %x, %d, want %x, %d", c.name, i, got, e, want, e2)
				}
			}
		}
	}
}

// R4: lists are not changed.
func TestLists(t *testing.T) {
	x, y := api.Nat{top, top, 0}, api.Nat{7, 0}
	list := []api.Nat{x, y, nil, {0}, {5}}
	was := copies(list)
	want := nat.Trim(joined(list[:4], 2))
	got, e := fast.Join(list[:4], 2)
	check(t, got, e, want, "Join", list[:4], 2)
	if !same(list, was) {
		t.Errorf("a list was changed:%s", shown(list))
	}
	numbers := []api.Int{{Neg: true, Mag: x}, {Mag: y}, {Neg: true}, {Mag: zeros(2)}, {Neg: true, Mag: api.Nat{1}}}
	v, e := fast.Value(numbers[:4], -3)
	checkInts(t, []api.Int{v}, e, []api.Int{canonical(valueAt(numbers[:4], -3))}, "Value", numbers[:4], -3)
	f, e := fast.Five(numbers[:4])
	checkInts(t, f[:], e, fiveOf(numbers[:4]), "Five", numbers[:4])
	kept := []api.Int{{Neg: true, Mag: api.Nat{top, top, 0}}, {Mag: api.Nat{7, 0}}, {Neg: true}, {Mag: zeros(2)}, {Neg: true, Mag: api.Nat{1}}}
	if !sameInts(numbers, kept) {
		t.Errorf("a list was changed:%s", shown(numbers))
	}
}
