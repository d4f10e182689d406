package divide_test

import (
	"strconv"
	"testing"

	"reckoner/api"
	"reckoner/divide"
	"reckoner/internal/oracle"
	"reckoner/nat"
)

// one is a call of a function of one number.
func one(name string, f func(x api.Nat) (api.Nat, api.Errno)) oracle.Call {
	return oracle.Call{Name: name, Numbers: 1, Do: func(l []api.Nat) ([]api.Nat, api.Errno) {
		z, e := f(l[0])
		return []api.Nat{z}, e
	}}
}

// two is a call of a function of two numbers.
func two(name string, f func(x, y api.Nat) (api.Nat, api.Errno)) oracle.Call {
	return oracle.Call{Name: name, Numbers: 2, Do: func(l []api.Nat) ([]api.Nat, api.Errno) {
		z, e := f(l[0], l[1])
		return []api.Nat{z}, e
	}}
}

// calls are calls of all functions with an Errno.
func calls() []oracle.Call {
	list := []oracle.Call{
		two("Exact", divide.Exact),
		one("Inverse", divide.Inverse),
		one("Shift of Normal", func(x api.Nat) (api.Nat, api.Errno) {
			_, s, e := divide.Normal(x)
			return nat.FromWord(uint64(s)), e
		}),
		one("Normal", func(x api.Nat) (api.Nat, api.Errno) {
			z, _, e := divide.Normal(x)
			return z, e
		}),
		two("Estimate", func(x, y api.Nat) (api.Nat, api.Errno) {
			w, e := divide.Estimate(x, y)
			return nat.FromWord(w), e
		}),
		{Name: "Many", Numbers: 4, Do: func(l []api.Nat) ([]api.Nat, api.Errno) { return divide.Many(l[0], l[1:]) }},
		{Name: "Many by one", Numbers: 2, Do: func(l []api.Nat) ([]api.Nat, api.Errno) { return divide.Many(l[0], l[1:]) }},
		{Name: "Many by none", Numbers: 1, Do: func(l []api.Nat) ([]api.Nat, api.Errno) { return divide.Many(l[0], nil) }},
		{Name: "Many by too many", Numbers: 2, Do: func(l []api.Nat) ([]api.Nat, api.Errno) {
			return divide.Many(l[0], append(make([]api.Nat, 1000), l[1]))
		}},
	}
	for _, w := range ways(1, 2, 3, 64, 65) {
		list = append(list, oracle.Call{Name: w.name, Numbers: 2, Do: func(l []api.Nat) ([]api.Nat, api.Errno) {
			q, r, e := w.divide(l[0], l[1])
			return []api.Nat{q, r}, e
		}})
	}
	for _, m := range append(roundings, -1, 5) {
		list = append(list, two("Rounded "+strconv.Itoa(int(m)), func(x, y api.Nat) (api.Nat, api.Errno) { return divide.Rounded(x, y, m) }))
	}
	for _, n := range []int{-1, 0, 1, 3, 70, 4096, 4097} {
		list = append(list, two("Odd of "+strconv.Itoa(n), func(x, y api.Nat) (api.Nat, api.Errno) { return divide.Odd(x, y, n) }))
	}
	return list
}

// lists returns lists of so many numbers: with those that are 0, small and long ones, at each place.
func lists(numbers int) [][]api.Nat {
	m := oracle.Mixer(73)
	some := []api.Nat{nil, {0}, {1}, {6}, {top, 7}, {3, half}, {0, 0, half}, {5, 6, 0, 0}, ones(5), m.Row(9), m.Row(70), m.Row(150)}
	var list [][]api.Nat
	for i := range some {
		for _, step := range []int{0, 1, 5, 7, 10} {
			var l []api.Nat
			for k := range numbers {
				l = append(l, some[(i+k*step)%len(some)])
			}
			list = append(list, l)
		}
	}
	return list
}

// R2, R3, R4, R7, for all functions.
func TestRules(t *testing.T) {
	for _, c := range calls() {
		for i, l := range lists(c.Numbers) {
			c.CheckResult(t, l)
			c.CheckMemory(t, l)
			if i%6 == 0 {
				c.CheckTooLong(t, l)
				c.CheckZeros(t, l)
			}
		}
	}
}

// R4: the same memory may be in more than one argument.
func TestSharedArguments(t *testing.T) {
	m := oracle.Mixer(79)
	all := api.Nat(m.Row(150))
	kept := oracle.Copies([]api.Nat{all})
	for _, c := range calls() {
		for _, n := range []int{1, 4, 100} {
			for i := range 4 {
				l := []api.Nat{all[:n+i], all[i : n+i], all[:n], all[i : n+i]}[:c.Numbers]
				got, e := c.Do(l)
				want, e2 := c.Do(oracle.Copies(l))
				if e != e2 || !oracle.Same(got, want) || !oracle.Same([]api.Nat{all}, kept) {
					t.Errorf("%s%s of shared memory: error %d,%s; want error %d,%s", c.Name, shown(l...), e, shown(got...), e2, shown(want...))
				}
			}
		}
	}
}

// The chapter's examples.
func TestExamples(t *testing.T) {
	w, e := divide.Estimate(alone(128), api.Nat{0, half + 1})
	check(t, nat.FromWord(w), e, api.Nat{1}, "Estimate")
	v, s, e := divide.Normal(api.Nat{1})
	check(t, v, e, api.Nat{half}, "Normal")
	if s != 63 {
		t.Errorf("Normal of 1: shift %d", s)
	}
	v, e = divide.Inverse(api.Nat{half})
	check(t, v, e, less(alone(65)), "Inverse")
	v, e = divide.Odd(api.Nat{1}, api.Nat{3}, 1)
	check(t, v, e, api.Nat{0xaaaaaaaaaaaaaaab}, "Odd")
}
