package modular_test

import (
	"testing"

	"reckoner/api"
	"reckoner/internal/oracle"
	"reckoner/modular"
	"reckoner/nat"
)

// P8.2, P8.9: all small residues: Inverse by search, Solve by all of its solutions.
func TestEquationsOfSmallResidues(t *testing.T) {
	for n := uint64(1); n < 37; n++ {
		for a := range n {
			inverse, is := uint64(0), false
			for x := range n {
				if a*x%n == 1%n {
					inverse, is = x, true
				}
			}
			z, e := modular.Inverse(nat.FromWord(a), api.Nat{n})
			if is {
				check(t, z, e, nat.FromWord(inverse), "Inverse", api.Nat{a}, api.Nat{n})
			} else {
				fails(t, []api.Nat{z}, e, api.ErrNone, "Inverse", api.Nat{a}, api.Nat{n})
			}
			for b := range n {
				checkSmallSolve(t, a, b, n)
			}
		}
		for _, c := range [][2]uint64{{n, 0}, {0, n}, {n + 1, n + 1}, {top, 0}, {0, top}} {
			z, step, e := modular.Solve(nat.FromWord(c[0]), nat.FromWord(c[1]), api.Nat{n})
			fails(t, []api.Nat{z, step}, e, api.ErrArg, "Solve", api.Nat{c[0]}, api.Nat{c[1]}, api.Nat{n})
		}
		for _, x := range []uint64{n, n + 1, n * n, top} {
			z, e := modular.Inverse(api.Nat{x}, api.Nat{n})
			fails(t, []api.Nat{z}, e, api.ErrArg, "Inverse", api.Nat{x}, api.Nat{n})
		}
	}
}

// checkSmallSolve checks Solve of small numbers.
func checkSmallSolve(t *testing.T, a, b, n uint64) {
	t.Helper()
	var all []uint64
	for x := range 2 * n {
		if a*x%n == b {
			all = append(all, x)
		}
	}
	x, step, e := modular.Solve(nat.FromWord(a), nat.FromWord(b), api.Nat{n})
	if len(all) == 0 {
		fails(t, []api.Nat{x, step}, e, api.ErrNone, "Solve", api.Nat{a}, api.Nat{b}, api.Nat{n})
		return
	}
	check(t, x, e, nat.FromWord(all[0]), "Solve", api.Nat{a}, api.Nat{b}, api.Nat{n})
	check(t, step, e, nat.FromWord(all[1]-all[0]), "step of Solve", api.Nat{a}, api.Nat{b}, api.Nat{n})
}

// checkInverse checks Inverse: that there is one just if x and n have no common divisor (P8.9), and that it is one.
func checkInverse(t *testing.T, x, n api.Nat) {
	t.Helper()
	z, e := modular.Inverse(x, n)
	if nat.Len(divisor(x, n)) > 1 {
		fails(t, []api.Nat{z}, e, api.ErrNone, "Inverse", x, n)
		return
	}
	if e != api.OK || nat.Cmp(z, n) >= 0 || !same(times(x, z), api.Nat{1}, n) {
		t.Errorf("Inverse%s: error %d,%s", shown(x, n), e, shown(z))
	}
	check(t, z, e, nat.Trim(z), "Inverse", x, n)
}

// checkSolve checks Solve: the solutions of a x = b modulo n, if there is one, are a residue of n / g, g being the divisor of a and n, and what is n / g greater again and again.
func checkSolve(t *testing.T, a, b, n api.Nat) {
	t.Helper()
	g := divisor(a, n)
	x, step, e := modular.Solve(a, b, n)
	if nat.Len(left(b, g)) > 0 {
		fails(t, []api.Nat{x, step}, e, api.ErrNone, "Solve", a, b, n)
		return
	}
	if nat.Cmp(times(step, g), n) != 0 || nat.Cmp(x, step) >= 0 || !same(times(a, x), b, n) {
		t.Errorf("Solve%s: error %d,%s", shown(a, b, n), e, shown(x, step))
	}
	check(t, x, e, nat.Trim(x), "Solve", a, b, n)
	check(t, step, e, nat.Trim(step), "step of Solve", a, b, n)
}

// P8.2, P8.9: residues of moduli of all lengths.
func TestEquations(t *testing.T) {
	m := oracle.Mixer(19)
	for _, n := range moduli(&m, 1, 2, 3, 5, 9) {
		list := residues(n, &m)
		for _, a := range list {
			checkInverse(t, a, n)
			for _, b := range list {
				checkSolve(t, a, b, n)
			}
		}
	}
	for _, n := range moduli(&m, 40, 64) {
		list := residues(n, &m)
		for i, a := range list {
			checkInverse(t, a, n)
			checkSolve(t, a, list[(i+3)%len(list)], n)
			checkSolve(t, a, left(times(a, list[(i+5)%len(list)]), n), n)
		}
	}
}

// P8.2, P8.9: numbers with a common divisor, of which b is a multiple, or nearly.
func TestEquationsWithCommonDivisors(t *testing.T) {
	m := oracle.Mixer(23)
	for i := range 300 {
		g := api.Nat(m.Row(1 + i%30))
		n := times(g, m.Row(1+i/30))
		a, b := left(times(g, m.Row(20)), n), left(times(g, m.Row(20)), n)
		checkInverse(t, a, n)
		checkSolve(t, a, b, n)
		checkSolve(t, a, left(plus(b, api.Nat{1}), n), n)
		checkSolve(t, nil, b, n)
		checkSolve(t, a, nil, n)
		checkSolve(t, nil, nil, n)
	}
}

// P8.2: modulo 1 there is one residue, which is its own inverse.
func TestEquationsModuloOne(t *testing.T) {
	z, e := modular.Inverse(nil, api.Nat{1})
	check(t, z, e, nil, "Inverse modulo 1")
	z, step, e := modular.Solve(nil, api.Nat{0}, api.Nat{1, 0})
	check(t, z, e, nil, "Solve modulo 1")
	check(t, step, e, api.Nat{1}, "step of Solve modulo 1")
}

// P8.2, R1, R2: moduli that are 0 or too long.
func TestErrorsOfInverse(t *testing.T) {
	tooLong := ones(api.MaxWords + 1)
	for _, c := range []struct {
		x, n api.Nat
		want api.Errno
	}{
		{nil, nil, api.ErrZero}, {api.Nat{5}, zeros(65), api.ErrZero}, {nil, ones(65), api.ErrArg}, {ones(64), ones(64), api.ErrArg}, {ones(64), alone(64 * 64), api.ErrArg}, {nil, api.Nat{2}, api.ErrNone}, {nil, ones(64), api.ErrNone},
		{tooLong, nil, api.ErrSize}, {nil, zeros(api.MaxWords + 1), api.ErrSize},
	} {
		z, e := modular.Inverse(c.x, c.n)
		fails(t, []api.Nat{z}, e, c.want, "Inverse", c.x, c.n)
	}
	z, e := modular.Inverse(padded(less(ones(64)), 3), padded(ones(64), 5))
	check(t, z, e, less(ones(64)), "Inverse of -1")
}
