package modular_test

import (
	"testing"

	"reckoner/api"
	"reckoner/modular"
	"reckoner/nat"
)

const billion = 1000000000

// checkOrder checks the order of x, told by several multiples of it, and that other numbers are no multiples.
func checkOrder(t *testing.T, x, n api.Nat, order uint64) {
	t.Helper()
	for _, k := range []uint64{1, 2, 3, 4, 5, 6, 7, 12, 30, 64, 81, 97, 1024, 30030, 65537, 999983, billion / order} {
		if k*order > billion {
			continue
		}
		z, e := modular.Order(x, n, api.Nat{k * order})
		check(t, z, e, api.Nat{order}, "Order", x, n, api.Nat{k * order})
		for _, d := range []uint64{1, order / 2, order - 1} {
			if d > 0 && d < order {
				z, e = modular.Order(x, n, api.Nat{k*order - d})
				fails(t, []api.Nat{z}, e, api.ErrArg, "Order", x, n, api.Nat{k*order - d})
			}
		}
	}
}

// P8.7: all small residues, with all small numbers as multiples.
func TestOrdersOfSmallResidues(t *testing.T) {
	for n := uint64(1); n < 40; n++ {
		for x := range n + 2 {
			order := uint64(0) // if there is none
			z := 1 % n
			for k := uint64(1); k <= n && order == 0; k++ {
				if z = z * x % n; z == 1%n && x < n {
					order = k
				}
			}
			for multiple := range 3 * n {
				got, e := modular.Order(nat.FromWord(x), api.Nat{n}, nat.FromWord(multiple))
				if order > 0 && multiple > 0 && multiple%order == 0 {
					check(t, got, e, api.Nat{order}, "Order", api.Nat{x}, api.Nat{n}, api.Nat{multiple})
				} else {
					fails(t, []api.Nat{got}, e, api.ErrArg, "Order", api.Nat{x}, api.Nat{n}, api.Nat{multiple})
				}
			}
		}
	}
}

// P8.7: powers of 2 modulo 2^s - 1, where the order of 2 is s, and modulo 2^s + 1, where it is 2 s.
func TestOrdersOfPowersOfTwo(t *testing.T) {
	for _, s := range []int{2, 3, 5, 12, 63, 64, 65, 100, 127, 128, 720, 1021, 2048, 4096} {
		n := less(alone(s))
		checkOrder(t, api.Nat{2}, n, uint64(s))
		checkOrder(t, api.Nat{1}, n, 1)
		if s < 2000 {
			checkOrder(t, alone(s-1), n, uint64(s)) // which is the inverse of 2
		}
		if s > 2 && s < 1000 && s%2 == 0 {
			checkOrder(t, api.Nat{4}, n, uint64(s/2))
		}
		if s < 1000 {
			checkOrder(t, api.Nat{2}, plus(alone(s), api.Nat{1}), uint64(2*s))
			checkOrder(t, alone(s), plus(alone(s), api.Nat{1}), 2)
		}
	}
}

// P8.7: even moduli: 3 has the order 2^(s - 2) modulo 2^s, and 2^s + 1 the order 2^s modulo 2^(2 s).
func TestOrdersModuloPowersOfTwo(t *testing.T) {
	for _, s := range []int{3, 4, 5, 10, 20, 31} {
		checkOrder(t, api.Nat{3}, alone(s), 1<<(s-2))
	}
	for _, s := range []int{1, 2, 7, 20, 29} {
		if s > 1 { // 3 has the order 2 modulo 4
			checkOrder(t, plus(alone(s), api.Nat{1}), alone(2*s), 1<<s)
		}
		checkOrder(t, less(alone(4000)), alone(4000), 2)
		checkOrder(t, plus(alone(4000-s), api.Nat{1}), alone(4000), 1<<s)
	}
}

// P8.7: the greatest prime multiples, and orders that are prime.
func TestOrdersOfLargeMultiples(t *testing.T) {
	const p = 999999937 // the greatest prime number below 10^9
	checkOrder(t, api.Nat{1}, api.Nat{5}, 1)
	z, e := modular.Order(api.Nat{1}, api.Nat{5}, api.Nat{p})
	check(t, z, e, api.Nat{1}, "Order of 1")
	z, e = modular.Order(plus(alone(30), api.Nat{1}), alone(60), api.Nat{1 << 29})
	fails(t, []api.Nat{z}, e, api.ErrArg, "Order, told by a half")
	// Modulo p p, p + 1 to the power of k is k p + 1.
	checkOrder(t, api.Nat{p + 1}, times(api.Nat{p}, api.Nat{p}), p)
	// 5 generates the residues of 10^9 + 7; so its square has half of their number as its order.
	checkOrder(t, api.Nat{25}, api.Nat{billion + 7}, (billion+6)/2)
	z, e = modular.Order(api.Nat{5}, api.Nat{billion + 7}, api.Nat{billion + 6})
	fails(t, []api.Nat{z}, e, api.ErrArg, "Order, told by more than 10^9")
}

// P8.7, R1, R2: multiples that are none or too great, moduli that are 0 or too long, and words that are 0.
func TestErrorsOfOrder(t *testing.T) {
	seven, tooLong := api.Nat{7}, ones(api.MaxWords+1)
	for _, c := range []struct {
		x, n, multiple api.Nat
		want           api.Errno
	}{
		{api.Nat{2}, seven, nil, api.ErrArg}, {api.Nat{2}, seven, zeros(50), api.ErrArg}, {api.Nat{2}, seven, api.Nat{1}, api.ErrArg}, {api.Nat{2}, seven, api.Nat{4}, api.ErrArg}, {nil, seven, api.Nat{6}, api.ErrArg}, {api.Nat{7}, seven, api.Nat{6}, api.ErrArg}, {api.Nat{8}, seven, api.Nat{6}, api.ErrArg}, {api.Nat{1}, api.Nat{1}, api.Nat{1}, api.ErrArg}, {api.Nat{2}, api.Nat{6}, api.Nat{2}, api.ErrArg},
		{api.Nat{1}, seven, api.Nat{billion + 1}, api.ErrArg}, {api.Nat{1}, seven, api.Nat{top}, api.ErrArg}, {api.Nat{1}, seven, api.Nat{1, 1}, api.ErrArg}, {api.Nat{1}, seven, ones(api.MaxWords), api.ErrArg}, {api.Nat{1}, seven, alone(64), api.ErrArg},
		{api.Nat{1}, ones(65), api.Nat{1}, api.ErrArg}, {nil, nil, nil, api.ErrZero}, {api.Nat{9}, zeros(65), api.Nat{top}, api.ErrZero},
		{tooLong, nil, nil, api.ErrSize}, {nil, tooLong, nil, api.ErrSize}, {nil, nil, zeros(api.MaxWords + 1), api.ErrSize},
	} {
		z, e := modular.Order(c.x, c.n, c.multiple)
		fails(t, []api.Nat{z}, e, c.want, "Order", c.x, c.n, c.multiple)
	}
	z, e := modular.Order(api.Nat{1}, seven, api.Nat{billion})
	check(t, z, e, api.Nat{1}, "Order, told by 10^9")
	z, e = modular.Order(padded(api.Nat{2}, 9), padded(seven, 70), padded(api.Nat{billion - 1}, 4000)) // which is a multiple of 3
	check(t, z, e, api.Nat{3}, "Order with zeros")
	z, e = modular.Order(nil, api.Nat{1}, api.Nat{999})
	check(t, z, e, api.Nat{1}, "Order modulo 1")
}
