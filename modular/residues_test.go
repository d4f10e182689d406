package modular_test

import (
	"math"
	"strconv"
	"testing"

	"reckoner/api"
	"reckoner/internal/oracle"
	"reckoner/modular"
	"reckoner/nat"
)

// P8.1: all small residues, and numbers that are none, by the definitions.
func TestSumsAndProductsOfSmallResidues(t *testing.T) {
	for n := uint64(1); n < 24; n++ {
		for x := range n + 3 {
			for y := range n + 3 {
				for name, c := range map[string]struct {
					f    func(x, y, n api.Nat) (api.Nat, api.Errno)
					want uint64
				}{
					"Add": {modular.Add, (x + y) % n},
					"Sub": {modular.Sub, (x + n - y%n) % n},
					"Mul": {modular.Mul, x * y % n},
				} {
					z, e := c.f(nat.FromWord(x), nat.FromWord(y), api.Nat{n})
					if x < n && y < n {
						check(t, z, e, nat.FromWord(c.want), name, api.Nat{x}, api.Nat{y}, api.Nat{n})
					} else {
						fails(t, []api.Nat{z}, e, api.ErrArg, name, api.Nat{x}, api.Nat{y}, api.Nat{n})
					}
				}
			}
		}
	}
}

// P8.1: moduli of all lengths, by the quotients of chapter 2.
func TestSumsAndProducts(t *testing.T) {
	m := oracle.Mixer(5)
	for _, n := range moduli(&m, 1, 2, 3, 4, 7, 16, 33, 63, 64) {
		list := residues(n, &m)
		for _, x := range list {
			for _, y := range list {
				z, e := modular.Add(x, y, n)
				check(t, z, e, left(plus(x, y), n), "Add", x, y, n)
				z, e = modular.Sub(x, y, n)
				check(t, z, e, left(minus(plus(x, n), y), n), "Sub", x, y, n)
				z, e = modular.Mul(x, y, n)
				check(t, z, e, left(times(x, y), n), "Mul", x, y, n)
			}
		}
	}
}

// callsOfTwoResidues are all functions of two numbers, both to be residues, and a modulus.
func callsOfTwoResidues() map[string]func(x, y, n api.Nat) (api.Nat, api.Errno) {
	return map[string]func(x, y, n api.Nat) (api.Nat, api.Errno){
		"Add":        modular.Add,
		"Sub":        modular.Sub,
		"Mul":        modular.Mul,
		"Montgomery": modular.Montgomery,
		"Solve": func(x, y, n api.Nat) (api.Nat, api.Errno) {
			z, step, e := modular.Solve(x, y, n)
			if e != api.OK && len(step) > 0 {
				return step, e
			}
			return z, e
		},
	}
}

// powers are all ways to take powers.
func powers() map[string]func(x, k, n api.Nat) (api.Nat, api.Errno) {
	list := map[string]func(x, k, n api.Nat) (api.Nat, api.Errno){
		"Pow":    modular.Pow,
		"Ladder": modular.Ladder,
	}
	for bits := 1; bits <= 8; bits++ {
		list["Window of "+strconv.Itoa(bits)] = func(x, k, n api.Nat) (api.Nat, api.Errno) { return modular.Window(x, k, n, bits) }
	}
	return list
}

// checkPower checks that all ways take x to the power of k, a residue of n.
func checkPower(t *testing.T, x, k, n, want api.Nat) {
	t.Helper()
	for name, f := range powers() {
		z, e := f(x, k, n)
		if name == "Ladder" && !isOdd(n) {
			fails(t, []api.Nat{z}, e, api.ErrArg, name, x, k, n)
			continue
		}
		check(t, z, e, want, name, x, k, n)
	}
}

// P8.1, P8.3: all small powers, and such of numbers that are no residues.
func TestPowersOfSmallResidues(t *testing.T) {
	for n := uint64(1); n < 20; n++ {
		for x := range n + 2 {
			z := 1 % n
			for k := range uint64(18) {
				if x < n {
					checkPower(t, nat.FromWord(x), nat.FromWord(k), api.Nat{n}, nat.FromWord(z))
				} else {
					for name, f := range powers() {
						z, e := f(nat.FromWord(x), nat.FromWord(k), api.Nat{n})
						fails(t, []api.Nat{z}, e, api.ErrArg, name, api.Nat{x}, api.Nat{k}, api.Nat{n})
					}
				}
				z = z * x % n
			}
		}
	}
}

// exponents returns exponents of several lengths: 0, powers of 2 and numbers beside them, and mixed ones.
func exponents(m *oracle.Mixer) []api.Nat {
	list := []api.Nat{nil, {1}, {2}, {3}, {5}, {255}, {256}, {257}, {half}, {top}, {0, 1}, {1, 1}}
	for _, n := range []int{1, 2, 3, 5} {
		list = append(list, m.Row(n))
	}
	for s := range 9 {
		list = append(list, alone(64+s), less(alone(120+s)))
	}
	return list
}

// P8.1, P8.3: powers modulo numbers of many lengths, by squares and products as chapter 2 takes them.
func TestPowers(t *testing.T) {
	m := oracle.Mixer(7)
	list := exponents(&m)
	for i, n := range moduli(&m, 1, 2, 3, 4, 7, 13) {
		all := residues(n, &m)
		for j, k := range list {
			x := all[(i+j)%len(all)]
			checkPower(t, x, k, n, power(x, k, n))
		}
		for _, x := range all {
			k := list[m.Next()%uint64(len(list))]
			checkPower(t, x, k, n, power(x, k, n))
		}
	}
}

// P8.1, P8.3: the longest moduli and exponents.
func TestPowersOfLongNumbers(t *testing.T) {
	m := oracle.Mixer(11)
	for i, n := range []api.Nat{m.Row(64), m.Row(64), ones(64), alone(64*64 - 1), alone(63 * 64), plus(alone(63*64), api.Nat{1})} {
		if i < 2 {
			n[0] = n[0]&^1 | uint64(i)
		}
		x := left(m.Row(64), n)
		for _, k := range []api.Nat{m.Row(2), alone(130)} {
			checkPower(t, x, k, n, power(x, k, n))
		}
	}
	for _, k := range []api.Nat{m.Row(64), ones(64), alone(64*64 - 1)} {
		for _, n := range []api.Nat{{top - 4}, {half}, m.Row(2), {1}} {
			x := left(m.Row(3), n)
			checkPower(t, x, k, n, power(x, k, n))
			checkPower(t, padded(x, 70), padded(k, 1), padded(n, 100), power(x, k, n))
		}
	}
	n, k := api.Nat(m.Row(64)), api.Nat(m.Row(64))
	for bit := range uint64(2) {
		n[0] = n[0]&^1 | bit
		x := left(m.Row(64), n)
		want := power(x, k, n)
		z, e := modular.Pow(x, k, n)
		check(t, z, e, want, "Pow", x, k, n)
		z, e = modular.Window(x, k, n, 4)
		check(t, z, e, want, "Window", x, k, n)
	}
}

// P8.8: a power with a sum as its exponent is the product of two.
func TestPowerOfSum(t *testing.T) {
	m := oracle.Mixer(13)
	for _, n := range moduli(&m, 1, 2, 5) {
		for _, x := range residues(n, &m) {
			j, k := api.Nat(m.Row(1+int(m.Next()%3))), api.Nat(m.Row(1+int(m.Next()%3)))
			a, _ := modular.Pow(x, j, n)
			b, _ := modular.Pow(x, k, n)
			product, e := modular.Mul(a, b, n)
			if e != api.OK {
				t.Fatalf("Mul%s: error %d", shown(a, b, n), e)
			}
			checkPower(t, x, plus(j, k), n, product)
		}
	}
}

// P8.8: with a prime number as modulus and exponent, x is left; and 1 with 1 less, if x is not 0.
func TestPowersByPrimes(t *testing.T) {
	m := oracle.Mixer(17)
	for _, s := range mersennePrimes() {
		p := less(alone(s))
		for i, x := range residues(p, &m) {
			if s < 600 {
				checkPower(t, x, p, p, x)
			} else if i%4 == 2 {
				z, e := modular.Pow(x, p, p)
				check(t, z, e, x, "Pow", x, p, p)
				z, e = modular.Ladder(x, p, p)
				check(t, z, e, x, "Ladder", x, p, p)
			}
			if s < 200 && nat.Len(x) > 0 {
				checkPower(t, x, less(p), p, api.Nat{1})
			}
		}
	}
}

// P8.1, P8.2, P8.3, R1, R2: numbers that are no residues, moduli that are 0 or too long, and exponents that are.
func TestErrorsOfResidues(t *testing.T) {
	long, tooLong := ones(65), ones(api.MaxWords+1)
	for name, f := range callsOfTwoResidues() {
		for _, c := range []struct {
			x, y, n api.Nat
			want    api.Errno
		}{
			{api.Nat{7}, api.Nat{1}, api.Nat{7}, api.ErrArg}, {api.Nat{1}, api.Nat{7}, api.Nat{7}, api.ErrArg}, {nil, api.Nat{0, 1}, api.Nat{7}, api.ErrArg}, {api.Nat{1}, nil, api.Nat{1}, api.ErrArg},
			{ones(64), nil, ones(64), api.ErrArg}, {nil, ones(64), ones(64), api.ErrArg}, {ones(65), nil, ones(64), api.ErrArg}, {nil, ones(api.MaxWords), ones(64), api.ErrArg},
			{nil, nil, nil, api.ErrZero}, {api.Nat{5}, api.Nat{6}, api.Nat{0}, api.ErrZero}, {long, long, zeros(api.MaxWords), api.ErrZero}, {ones(64), ones(64), zeros(65), api.ErrZero},
			{nil, nil, long, api.ErrArg}, {api.Nat{5}, api.Nat{6}, ones(api.MaxWords), api.ErrArg}, {api.Nat{1}, nil, plus(alone(64*64), api.Nat{1}), api.ErrArg},
			{tooLong, nil, nil, api.ErrSize}, {nil, tooLong, api.Nat{5}, api.ErrSize}, {nil, nil, zeros(api.MaxWords + 1), api.ErrSize}, {nil, zeros(api.MaxWords + 1), api.Nat{5}, api.ErrSize}, {tooLong, tooLong, tooLong, api.ErrSize},
		} {
			z, e := f(c.x, c.y, c.n)
			fails(t, []api.Nat{z}, e, c.want, name, c.x, c.y, c.n)
		}
		n := ones(64)
		if z, e := f(padded(less(n), 9), padded(api.Nat{1}, 90), padded(n, 1)); e != api.OK {
			t.Errorf("%s of the longest modulus: error %d,%s", name, e, shown(z))
		}
	}
}

// P8.1, P8.3, R1, R2: powers that there are not, and the longest exponents, with words that are 0.
func TestErrorsOfPowers(t *testing.T) {
	tooLong := ones(api.MaxWords + 1)
	for name, f := range powers() {
		for _, c := range []struct {
			x, k, n api.Nat
			want    api.Errno
		}{
			{api.Nat{7}, api.Nat{1}, api.Nat{7}, api.ErrArg}, {api.Nat{8}, nil, api.Nat{7}, api.ErrArg}, {api.Nat{1}, nil, api.Nat{1}, api.ErrArg},
			{nil, ones(65), api.Nat{7}, api.ErrArg}, {nil, alone(64 * 64), api.Nat{7}, api.ErrArg}, {nil, ones(api.MaxWords), api.Nat{1}, api.ErrArg},
			{nil, nil, ones(65), api.ErrArg}, {nil, nil, nil, api.ErrZero}, {api.Nat{7}, ones(65), zeros(3), api.ErrZero},
			{tooLong, nil, nil, api.ErrSize}, {nil, tooLong, nil, api.ErrSize}, {nil, nil, tooLong, api.ErrSize}, {nil, zeros(api.MaxWords + 1), api.Nat{7}, api.ErrSize},
		} {
			z, e := f(c.x, c.k, c.n)
			fails(t, []api.Nat{z}, e, c.want, name, c.x, c.k, c.n)
		}
		z, e := f(padded(api.Nat{6}, 100), padded(ones(64), 1000), padded(api.Nat{7}, 100))
		check(t, z, e, api.Nat{6}, name)
	}
}

// P8.1, R1, R2: how many bits may be taken at a time.
func TestErrorsOfWindow(t *testing.T) {
	for _, bits := range []int{math.MinInt, -8, -1, 0, 9, 10, 64, 65, math.MaxInt} {
		for _, n := range []api.Nat{{1}, {7}, {8}, ones(64)} {
			z, e := modular.Window(nil, api.Nat{5}, n, bits)
			fails(t, []api.Nat{z}, e, api.ErrArg, "Window", n)
		}
		z, e := modular.Window(api.Nat{6}, api.Nat{5}, nil, bits)
		fails(t, []api.Nat{z}, e, api.ErrZero, "Window")
		z, e = modular.Window(api.Nat{6}, zeros(api.MaxWords+1), nil, bits)
		fails(t, []api.Nat{z}, e, api.ErrSize, "Window")
	}
}
