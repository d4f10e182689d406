package modular_test

import (
	"slices"
	"strconv"
	"testing"

	"reckoner/api"
	"reckoner/internal/oracle"
	"reckoner/nat"
)

const (
	top  = oracle.Top
	half = oracle.Half
)

var (
	alone = oracle.Alone
	check = oracle.Check
	fails = oracle.Fails
	less  = oracle.Less
	ones  = oracle.Ones
	plus  = oracle.Plus
	shown = oracle.Shown
	times = oracle.Times
	zeros = oracle.Zeros
)

// number returns i as a number.
func number(i int) api.Nat {
	return nat.FromWord(uint64(i))
}

// padded returns x with n words of 0 behind it.
func padded(x api.Nat, n int) api.Nat {
	return append(slices.Clone(x), zeros(n)...)
}

// minus returns x - y, for a y that is not greater than x.
func minus(x, y api.Nat) api.Nat {
	z, _ := nat.Sub(x, y)
	return z
}

// left returns what x leaves by n.
func left(x, n api.Nat) api.Nat {
	_, r, _ := nat.DivMod(x, n)
	return r
}

// same tells whether x and y leave the same by n.
func same(x, y, n api.Nat) bool {
	return nat.Cmp(left(x, n), left(y, n)) == 0
}

// divisor returns the greatest common divisor of a and b.
func divisor(a, b api.Nat) api.Nat {
	for nat.Len(b) > 0 {
		a, b = b, left(a, b)
	}
	return nat.Trim(a)
}

// power returns x to the power of k modulo n, by the bits of k from the lowest one on.
func power(x, k, n api.Nat) api.Nat {
	z := left(api.Nat{1}, n)
	x = left(x, n)
	for i := range nat.Len(k) {
		if nat.Bit(k, i) {
			z = left(times(z, x), n)
		}
		x = left(times(x, x), n)
	}
	return z
}

// isOdd tells whether x is odd.
func isOdd(x api.Nat) bool {
	return nat.Bit(x, 0)
}

// moduli returns moduli of these lengths, odd and even ones.
func moduli(m *oracle.Mixer, lengths ...int) []api.Nat {
	var list []api.Nat
	for _, n := range lengths {
		if n == 1 {
			list = append(list, api.Nat{1}, api.Nat{2}, api.Nat{3}, api.Nat{4}, api.Nat{10}, api.Nat{half - 1}, api.Nat{half}, api.Nat{half + 1}, api.Nat{top - 1}, api.Nat{top})
			continue
		}
		for _, x := range oracle.Shapes(n, m) {
			x[0] |= m.Next() & 1
			list = append(list, x)
		}
	}
	return list
}

// residues returns some residues of n, each once: the least and the greatest ones, those about the middle, and mixed ones of several lengths.
func residues(n api.Nat, m *oracle.Mixer) []api.Nat {
	middle, _ := nat.Right(n, 1)
	list := []api.Nat{nil, {1}, {2}, middle, plus(middle, api.Nat{1}), less(n)}
	if nat.Len(n) > 2 {
		list = append(list, less(less(n)))
	}
	for i := range 4 {
		list = append(list, left(m.Row(max(1, len(n)*(i+1)/4)), n))
	}
	list = slices.DeleteFunc(list, func(x api.Nat) bool { return nat.Cmp(x, n) >= 0 })
	slices.SortFunc(list, nat.Cmp)
	return slices.CompactFunc(list, func(x, y api.Nat) bool { return nat.Cmp(x, y) == 0 })
}

// mersennePrimes returns the exponents of 2 in the prime numbers 2^s - 1 that are moduli.
func mersennePrimes() []int {
	return []int{2, 3, 5, 7, 13, 17, 19, 31, 61, 89, 107, 127, 521, 607, 1279, 2203, 2281, 3217}
}

// ofModulus is a call of a function of a modulus n and of other numbers, so that the first number of the call is n.
func ofModulus(name string, others int, f func(n api.Nat, l ...api.Nat) ([]api.Nat, api.Errno)) oracle.Call {
	return oracle.Call{Name: name + " by a first number, of " + strconv.Itoa(others), Numbers: 1 + others, Do: func(l []api.Nat) ([]api.Nat, api.Errno) { return f(l[0], l[1:]...) }}
}

// The arithmetic that the tests check with, by small numbers.
func TestNumbers(t *testing.T) {
	for n := uint64(1); n < 30; n++ {
		for x := range uint64(40) {
			z := uint64(1)
			for k := range 12 {
				if got := power(api.Nat{x}, number(k), api.Nat{n}); nat.Cmp(got, nat.FromWord(z%n)) != 0 {
					t.Errorf("power(%d, %d, %d):%s", x, k, n, shown(got))
				}
				z = z * x % n
			}
			g := max(x, n)
			for d := uint64(1); d <= max(x, n); d++ {
				if x%d == 0 && n%d == 0 {
					g = d
				}
			}
			if got := divisor(api.Nat{x}, api.Nat{n}); nat.Cmp(got, api.Nat{g}) != 0 {
				t.Errorf("divisor(%d, %d):%s", x, n, shown(got))
			}
		}
	}
	m := oracle.Mixer(3)
	for _, n := range moduli(&m, 1, 2, 5, 64) {
		list := residues(n, &m)
		if nat.Cmp(list[0], nil) != 0 || nat.Cmp(list[len(list)-1], less(n)) != 0 || !slices.IsSortedFunc(list, nat.Cmp) {
			t.Errorf("residues of%s:%s", shown(n), shown(list...))
		}
	}
}
