package nat_test

import (
	"slices"
	"testing"

	"reckoner/api"
	"reckoner/internal/oracle"
	"reckoner/nat"
)

// call is a call with one or two numbers, its other arguments chosen. It returns all numbers of the result; other results are among them as words.
type call struct {
	name    string
	numbers int
	do      func(x, y api.Nat) ([]api.Nat, api.Errno)
}

// one is a call of a function of one number.
func one(name string, f func(x api.Nat) (api.Nat, api.Errno)) call {
	return call{name, 1, func(x, _ api.Nat) ([]api.Nat, api.Errno) {
		z, e := f(x)
		return []api.Nat{z}, e
	}}
}

// two is a call of a function of two numbers.
func two(name string, f func(x, y api.Nat) (api.Nat, api.Errno)) call {
	return call{name, 2, func(x, y api.Nat) ([]api.Nat, api.Errno) {
		z, e := f(x, y)
		return []api.Nat{z}, e
	}}
}

// calls are calls of all functions with an Errno.
func calls() []call {
	list := []call{
		two("Add", nat.Add), two("Sub", nat.Sub), two("Mul", nat.Mul), two("And", nat.And), two("Or", nat.Or), two("Xor", nat.Xor),
		one("Square", nat.Square),
		{"DivMod", 2, func(x, y api.Nat) ([]api.Nat, api.Errno) {
			q, r, e := nat.DivMod(x, y)
			return []api.Nat{q, r}, e
		}},
		two("Sum", func(x, y api.Nat) (api.Nat, api.Errno) { return nat.Sum([]api.Nat{x, y}) }),
		two("Product", func(x, y api.Nat) (api.Nat, api.Errno) { return nat.Product([]api.Nat{x, y}) }),
		one("Sum of one", func(x api.Nat) (api.Nat, api.Errno) { return nat.Sum([]api.Nat{x}) }),
		one("Product of one", func(x api.Nat) (api.Nat, api.Errno) { return nat.Product([]api.Nat{x}) }),
	}
	for _, w := range []uint64{0, 1, 7} {
		list = append(list, call{"DivWord", 1, func(x, _ api.Nat) ([]api.Nat, api.Errno) {
			q, r, e := nat.DivWord(x, w)
			return []api.Nat{q, nat.FromWord(r)}, e
		}})
	}
	for _, k := range []int{-1, 0, 1, 3, 64, api.MaxShift + 1} {
		list = append(list,
			one("Left", func(x api.Nat) (api.Nat, api.Errno) { return nat.Left(x, k) }),
			one("Right", func(x api.Nat) (api.Nat, api.Errno) { return nat.Right(x, k) }),
			one("Low", func(x api.Nat) (api.Nat, api.Errno) { return nat.Low(x, k) }),
			one("SetBit", func(x api.Nat) (api.Nat, api.Errno) { return nat.SetBit(x, k, true) }),
			one("SetBit to 0", func(x api.Nat) (api.Nat, api.Errno) { return nat.SetBit(x, k, false) }))
	}
	for _, k := range []int{-1, 0, 1, 3, 1000001} {
		list = append(list, one("Pow", func(x api.Nat) (api.Nat, api.Errno) { return nat.Pow(x, k) }))
	}
	return list
}

// R2: numbers with too many words come before all other errors, whichever number it is and also if all these words are 0.
func TestTooManyWords(t *testing.T) {
	for _, n := range []int{api.MaxWords + 1, 3 * api.MaxWords} {
		for _, long := range []api.Nat{zeros(n), ones(n), append(api.Nat{1}, zeros(n)...)} {
			for _, c := range calls() {
				for _, other := range []api.Nat{nil, {0}, {5}, ones(api.MaxWords), long} {
					for _, p := range [][2]api.Nat{{long, other}, {other, long}} {
						if c.numbers == 1 && len(p[0]) < n {
							continue
						}
						got, e := c.do(p[0], p[1])
						for _, z := range got {
							fails(t, z, e, api.ErrSize, c.name, p[0], p[1])
						}
					}
				}
			}
			for _, f := range []func(l []api.Nat) (api.Nat, api.Errno){nat.Sum, nat.Product} {
				list := slices.Repeat([]api.Nat{{0}}, 1000)
				list[999] = long
				z, e := f(list)
				fails(t, z, e, api.ErrSize, "Sum or Product with, at its end,", long)
			}
		}
	}
}

// Words that are 0 at the end do not change a value, also if there are as many as there may be.
func TestWordsOfZero(t *testing.T) {
	padded := func(x api.Nat) api.Nat {
		return append(slices.Clone(x), zeros(api.MaxWords-len(x))...)
	}
	for _, c := range calls() {
		for _, x := range []api.Nat{nil, {1}, {5}, {top, 7}, {0, 0, half}} {
			for _, y := range []api.Nat{nil, {3}, {9, 1}} {
				want, e := c.do(x, y)
				for _, p := range [][2]api.Nat{{padded(x), y}, {x, padded(y)}, {padded(x), padded(y)}} {
					if got, e2 := c.do(p[0], p[1]); e2 != e || !same(got, want) {
						t.Errorf("%s%s: %x, %d, want %x, %d", c.name, shown([]any{p[0], p[1]}), got, e2, want, e)
					}
				}
			}
		}
	}
}

// copies returns copies of numbers.
func copies(l []api.Nat) []api.Nat {
	var list []api.Nat
	for _, x := range l {
		list = append(list, slices.Clone(x))
	}
	return list
}

// spoil overwrites the memory of a number, also beyond its end.
func spoil(x api.Nat) {
	x = x[:cap(x)]
	for i := range x {
		x[i] = 0xabcdef
	}
}

func same(a, b []api.Nat) bool {
	return slices.EqualFunc(a, b, func(x, y api.Nat) bool { return slices.Equal(x, y) })
}

// R4, R7: arguments are not changed, results are new memory, what lies beyond a number does not matter, and a call that is made again gives the same.
func TestMemory(t *testing.T) {
	m := oracle.Mixer(2)
	list := append(calls(), one("Trim", func(x api.Nat) (api.Nat, api.Errno) { return nat.Trim(x), api.OK }))
	for _, c := range list {
		for _, n := range [][2]int{{0, 0}, {1, 0}, {0, 1}, {1, 1}, {3, 1}, {1, 3}, {4, 2}, {5, 5}, {7, 6}} {
			x, y := api.Nat(m.Row(n[0])), api.Nat(append(m.Row(n[1]), 0))
			wasX, wasY := slices.Clone(x), slices.Clone(y)
			inX, outX := oracle.Framed(x)
			inY, outY := oracle.Framed(y)
			keptX, keptY := slices.Clone(outX), slices.Clone(outY)
			got, e := c.do(inX, inY)
			want := copies(got)
			for i := range got {
				spoil(got[i])
				for j := i + 1; j < len(got); j++ {
					if !slices.Equal(got[j], want[j]) {
						t.Errorf("%s%s: results share memory", c.name, shown([]any{x, y}))
					}
				}
			}
			if !slices.Equal(outX, keptX) || !slices.Equal(outY, keptY) {
				t.Errorf("%s%s changes its arguments, or shares memory with them", c.name, shown([]any{x, y}))
			}
			got, e2 := c.do(x, y)
			spoil(x)
			spoil(y)
			if e2 != e || !same(got, want) {
				t.Errorf("%s%s is not what it was", c.name, shown([]any{wasX, wasY}))
			}
		}
	}
}

// R4: a number may be both arguments, and numbers may overlap.
func TestSharedArguments(t *testing.T) {
	all := api.Nat{top, 5, half, 1, 9, top, 3}
	for _, c := range calls() {
		for i := range 4 {
			was := slices.Clone(all)
			got, e := c.do(all[:4], all[i:i+4])
			want, e2 := c.do(slices.Clone(all[:4]), slices.Clone(all[i:i+4]))
			if e != e2 || !same(got, want) || !slices.Equal(all, was) {
				t.Errorf("%s with numbers that overlap at %d: %x, %d, want %x, %d; they are now %x", c.name, i, got, e, want, e2, all)
			}
		}
	}
}

// R4: the lists of Sum and Product are not changed, and the same number may be in them more than once.
func TestLists(t *testing.T) {
	for _, f := range []func(l []api.Nat) (api.Nat, api.Errno){nat.Sum, nat.Product} {
		x, y := api.Nat{top, top, 0}, api.Nat{7}
		list := []api.Nat{x, y, x, {1}, {5}}
		z, e := f(list[:4])
		want := slices.Clone(z)
		spoil(z)
		if !same(list, []api.Nat{{top, top, 0}, {7}, {top, top, 0}, {1}, {5}}) {
			t.Errorf("a list was changed: %x", list)
		}
		again, e2 := f(list[:4:4])
		spoil(x)
		if e != api.OK || e2 != api.OK || !slices.Equal(again, want) {
			t.Errorf("%x, and then %x", want, again)
		}
	}
}
