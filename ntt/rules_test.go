package ntt_test

import (
	"slices"
	"strconv"
	"testing"

	"reckoner/api"
	"reckoner/internal/oracle"
	"reckoner/ntt"
)

// call is a call with two lists, or one, its other arguments chosen. A number is a list too.
type call struct {
	name string
	do   func(a, b []uint64) ([]uint64, api.Errno)
}

// calls are calls of all functions that take or return lists or numbers.
func calls() []call {
	list := []call{
		{"Transform", func(a, _ []uint64) ([]uint64, api.Errno) { return ntt.Transform(a) }},
		{"Back", func(a, _ []uint64) ([]uint64, api.Errno) { return ntt.Back(a) }},
		{"Round", ntt.Round},
		{"Turned", ntt.Turned},
		{"Long", ntt.Long},
		{"Mul", func(a, b []uint64) ([]uint64, api.Errno) { return ntt.Mul(a, b) }},
		{"Square", func(a, _ []uint64) ([]uint64, api.Errno) { return ntt.Square(a) }},
	}
	for _, size := range []int{8, 16, 32, 33} {
		list = append(list,
			call{"Digits " + strconv.Itoa(size), func(a, _ []uint64) ([]uint64, api.Errno) { return ntt.Digits(a, size) }},
			call{"Join " + strconv.Itoa(size), func(a, _ []uint64) ([]uint64, api.Errno) { return ntt.Join(a, size) }})
	}
	return list
}

// spoil overwrites the memory of a list, also beyond its end.
func spoil(l []uint64) {
	l = l[:cap(l)]
	for i := range l {
		l[i] = 0xabcdef
	}
}

// R4, R7: arguments are not changed, results are new memory, what lies beyond a list does not matter, and a call that is made again gives the same.
func TestMemory(t *testing.T) {
	m := oracle.Mixer(97)
	for _, c := range calls() {
		for _, n := range [][2]int{{0, 0}, {1, 1}, {2, 2}, {4, 4}, {64, 64}, {2048, 2048}, {0, 1}, {1, 0}, {3, 5}, {1, 16}, {7, 2}} {
			a, b := mixed(&m, n[0]), mixed(&m, n[1])
			inA, outA := oracle.Framed(a)
			inB, outB := oracle.Framed(b)
			keptA, keptB := slices.Clone(outA), slices.Clone(outB)
			got, e := c.do(inA, inB)
			want := slices.Clone(got)
			spoil(got)
			if !slices.Equal(outA, keptA) || !slices.Equal(outB, keptB) {
				t.Errorf("%s%s changes its arguments, or shares memory with them", c.name, shown(a, b))
			}
			got, e2 := c.do(a, b)
			spoil(a)
			spoil(b)
			if e2 != e || !slices.Equal(got, want) {
				t.Errorf("%s%s is not what it was", c.name, shown(keptA, keptB))
			}
		}
	}
}

// R4: a list may be both arguments, and lists may overlap.
func TestSharedArguments(t *testing.T) {
	m := oracle.Mixer(101)
	list := mixed(&m, 80)
	for _, c := range calls() {
		for _, n := range []int{1, 4, 64} {
			for i := range 4 {
				was := slices.Clone(list)
				got, e := c.do(list[:n], list[i:i+n])
				want, e2 := c.do(slices.Clone(list[:n]), slices.Clone(list[i:i+n]))
				if e != e2 || !slices.Equal(got, want) || !slices.Equal(list, was) {
					t.Errorf("%s with lists that overlap at %d:%s, error %d; want%s, error %d", c.name, i, shown(got), e, shown(want), e2)
				}
			}
		}
	}
}

// Words that are 0 at the end do not change a number, also if there are as many as there may be.
func TestWordsOfZero(t *testing.T) {
	more := func(x []uint64) []uint64 {
		return append(slices.Clone(x), zeros(api.MaxWords-len(x))...)
	}
	for _, c := range calls()[5:] {
		for _, x := range [][]uint64{nil, {1}, {6, 7}, ones(5), {0, 0, oracle.Half}} {
			for _, y := range [][]uint64{nil, {3}, {9, 1}, ones(4)} {
				want, e := c.do(x, y)
				for _, p := range [][2][]uint64{{more(x), y}, {x, more(y)}, {more(x), more(y)}} {
					got, e2 := c.do(p[0], p[1])
					if e2 != e || !slices.Equal(got, want) {
						t.Errorf("%s%s: error %d,%s; want error %d,%s", c.name, shown(p[0], p[1]), e2, shown(got), e, shown(want))
					}
				}
			}
		}
	}
}
