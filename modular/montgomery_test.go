package modular_test

import (
	"testing"

	"reckoner/api"
	"reckoner/internal/oracle"
	"reckoner/modular"
	"reckoner/nat"
)

// r returns R of a modulus.
func r(n api.Nat) api.Nat {
	return alone(64 * len(nat.Trim(n)))
}

// oddModuli returns moduli of these lengths that are odd.
func oddModuli(m *oracle.Mixer, lengths ...int) []api.Nat {
	var list []api.Nat
	for _, n := range moduli(m, lengths...) {
		n[0] |= 1
		list = append(list, n)
	}
	return list
}

// checkRedc checks Redc of t by its definition: as R has no common divisor with n, there is just one such residue.
func checkRedc(t *testing.T, x, n api.Nat) {
	t.Helper()
	z, e := modular.Redc(x, n)
	if nat.Cmp(x, times(n, r(n))) >= 0 {
		fails(t, []api.Nat{z}, e, api.ErrArg, "Redc", x, n)
		return
	}
	if e != api.OK || nat.Cmp(z, n) >= 0 || !same(times(z, r(n)), x, n) {
		t.Errorf("Redc%s: error %d,%s", shown(x, n), e, shown(z))
	}
	check(t, z, e, nat.Trim(z), "Redc", x, n)
}

// P8.3: Redc of numbers of all lengths, also of those that are just less than n R, or not.
func TestRedc(t *testing.T) {
	m := oracle.Mixer(29)
	for _, n := range oddModuli(&m, 1, 2, 3, 5, 16, 33, 64) {
		w := len(n)
		most := times(n, r(n))
		list := []api.Nat{nil, {1}, {top}, {0, 1}, n, less(n), r(n), less(r(n)), most, less(most), plus(most, api.Nat{1}), less(less(most)), minus(most, n), minus(most, r(n)), ones(2 * w), ones(2*w + 1), times(n, n)}
		for i := range 2*w + 2 {
			list = append(list, m.Row(i))
		}
		for range 10 {
			list = append(list, left(m.Row(2*w+1), most), times(left(m.Row(w), r(n)), n))
		}
		for _, x := range list {
			checkRedc(t, x, n)
		}
	}
}

// P8.3, P8.9: in and out, and products between.
func TestMontgomery(t *testing.T) {
	m := oracle.Mixer(31)
	for _, n := range oddModuli(&m, 1, 2, 3, 5, 16, 33, 64) {
		list := residues(n, &m)
		inside := make([]api.Nat, len(list))
		for i, x := range list {
			z, e := modular.Enter(x, n)
			check(t, z, e, left(times(x, r(n)), n), "Enter", x, n)
			inside[i] = z
			z, e = modular.Leave(inside[i], n)
			check(t, z, e, x, "Leave of Enter", x, n)
			z, _ = modular.Leave(x, n)
			z, e = modular.Enter(z, n)
			check(t, z, e, x, "Enter of Leave", x, n)
		}
		for i, x := range list {
			for j, y := range list {
				z, e := modular.Montgomery(x, y, n)
				if e != api.OK || nat.Cmp(z, n) >= 0 || !same(times(z, r(n)), times(x, y), n) {
					t.Errorf("Montgomery%s: error %d,%s", shown(x, y, n), e, shown(z))
				}
				check(t, z, e, nat.Trim(z), "Montgomery", x, y, n)
				z, e = modular.Montgomery(inside[i], inside[j], n)
				check(t, z, e, left(times(left(times(x, y), n), r(n)), n), "Montgomery of Enter", x, y, n)
				z, e = modular.Montgomery(inside[i], y, n)
				check(t, z, e, left(times(x, y), n), "Montgomery of Enter and another number", x, y, n)
			}
		}
	}
}

// P8.3: modulo 1, R is 2^64 and all is 0.
func TestMontgomeryModuloOne(t *testing.T) {
	n := api.Nat{1, 0}
	for _, x := range []api.Nat{nil, {1}, {top}, {top, 0}} {
		z, e := modular.Redc(x, n)
		check(t, z, e, nil, "Redc", x, n)
	}
	z, e := modular.Redc(api.Nat{0, 1}, n)
	fails(t, []api.Nat{z}, e, api.ErrArg, "Redc of R", n)
	z, e = modular.Enter(nil, n)
	check(t, z, e, nil, "Enter", n)
	z, e = modular.Leave(nil, n)
	check(t, z, e, nil, "Leave", n)
	z, e = modular.Montgomery(nil, api.Nat{0}, n)
	check(t, z, e, nil, "Montgomery", n)
	z, e = modular.Ladder(nil, nil, n)
	check(t, z, e, nil, "Ladder", n)
}

// montgomeryCalls are the functions that take one number and an odd modulus.
func montgomeryCalls() map[string]func(x, n api.Nat) (api.Nat, api.Errno) {
	return map[string]func(x, n api.Nat) (api.Nat, api.Errno){
		"Redc":       modular.Redc,
		"Enter":      modular.Enter,
		"Leave":      modular.Leave,
		"Montgomery": func(x, n api.Nat) (api.Nat, api.Errno) { return modular.Montgomery(x, x, n) },
		"Ladder":     func(x, n api.Nat) (api.Nat, api.Errno) { return modular.Ladder(x, api.Nat{3}, n) },
	}
}

// P8.3, R1, R2: moduli that are even, 0, or too long, and numbers that are no residues.
func TestErrorsOfMontgomery(t *testing.T) {
	tooLong := ones(api.MaxWords + 1)
	for name, f := range montgomeryCalls() {
		for _, c := range []struct {
			x, n api.Nat
			want api.Errno
		}{
			{nil, api.Nat{2}, api.ErrArg}, {api.Nat{1}, api.Nat{6}, api.ErrArg}, {api.Nat{3}, api.Nat{0, 1}, api.ErrArg}, {api.Nat{9}, alone(64*64 - 1), api.ErrArg}, {api.Nat{1}, api.Nat{top - 1, 0}, api.ErrArg}, {nil, less(ones(64)), api.ErrArg},
			{nil, ones(65), api.ErrArg}, {nil, plus(alone(64*64), api.Nat{1}), api.ErrArg}, {ones(api.MaxWords), ones(64), api.ErrArg}, {ones(129), ones(64), api.ErrArg}, {alone(128), api.Nat{1}, api.ErrArg},
			{nil, nil, api.ErrZero}, {ones(65), zeros(65), api.ErrZero}, {api.Nat{5}, zeros(api.MaxWords), api.ErrZero},
			{tooLong, api.Nat{7}, api.ErrSize}, {tooLong, nil, api.ErrSize}, {zeros(api.MaxWords + 1), api.Nat{2}, api.ErrSize}, {nil, zeros(api.MaxWords + 1), api.ErrSize},
		} {
			z, e := f(c.x, c.n)
			fails(t, []api.Nat{z}, e, c.want, name, c.x, c.n)
		}
		for _, n := range []api.Nat{{3}, {top}, ones(2), ones(64)} {
			if name == "Redc" {
				continue
			}
			for _, x := range []api.Nat{n, plus(n, api.Nat{1}), times(n, n)} {
				z, e := f(x, n)
				fails(t, []api.Nat{z}, e, api.ErrArg, name, x, n)
			}
			if z, e := f(padded(less(n), 9), padded(n, 1)); e != api.OK {
				t.Errorf("%s%s: error %d,%s", name, shown(n), e, shown(z))
			}
		}
	}
}
