package nat_test

import (
	"math"
	"slices"
	"testing"

	"reckoner/api"
	"reckoner/internal/oracle"
	"reckoner/nat"
)

// P2.3: x y.
func TestMul(t *testing.T) {
	eachPair(func(x, y api.Nat) {
		z, e := nat.Mul(x, y)
		check(t, z, e, value(x...).Times(value(y...)), "Mul", x, y)
	})
}

// P2.3: x x.
func TestSquare(t *testing.T) {
	for _, x := range numbers() {
		z, e := nat.Square(x)
		check(t, z, e, value(x...).Times(value(x...)), "Square", x)
	}
}

// Products of longer numbers, of unlike lengths, and those whose columns are as great as they may be.
func TestLongProducts(t *testing.T) {
	m := oracle.Mixer(5)
	for _, n := range []int{10, 31, 64, 90} {
		for _, k := range []int{1, 2, 17, 64} {
			x, y := api.Nat(m.Row(n)), api.Nat(m.Row(k))
			z, e := nat.Mul(x, y)
			check(t, z, e, value(x...).Times(value(y...)), "Mul", x, y)
		}
		x := api.Nat(m.Row(n))
		z, e := nat.Square(x)
		check(t, z, e, value(x...).Times(value(x...)), "Square", x)
	}
	// (B^n - 1)^2 = B^(2 n) - 2 B^n + 1
	n := api.MaxWords / 2
	want := power(128 * n).Minus(power(64*n + 1)).Plus(value(1))
	z, e := nat.Mul(ones(n), ones(n))
	check(t, z, e, want, "Mul", ones(n), ones(n))
	z, e = nat.Square(ones(n))
	check(t, z, e, want, "Square", ones(n))
	// (B^n - 1) (B^k - 1) = B^(n + k) - B^n - B^k + 1
	z, e = nat.Mul(ones(n+1), ones(n-1))
	check(t, z, e, power(128*n).Minus(power(64*(n+1))).Minus(power(64*(n-1))).Plus(value(1)), "Mul", ones(n+1), ones(n-1))
}

// R2: products that are as large as they may be, and too large.
func TestLargeProducts(t *testing.T) {
	const half = api.MaxShift / 2
	most := ones(api.MaxWords)
	for _, p := range [][2]api.Nat{
		{most, {1}}, {most, {1, 0, 0}}, {most, nil}, {most, {0}}, {zeros(api.MaxWords), most},
		{alone(api.MaxShift - 1), {1}}, {alone(half), alone(half - 1)}, {alone(64 * 4000), alone(64*96 - 1)},
	} {
		want := value(p[0]...).Times(value(p[1]...))
		z, e := nat.Mul(p[0], p[1])
		check(t, z, e, want, "Mul", p[0], p[1])
		z, e = nat.Mul(p[1], p[0])
		check(t, z, e, want, "Mul", p[1], p[0])
	}
	for _, p := range [][2]api.Nat{
		{most, {2}}, {most, most}, {alone(half), alone(half)}, {alone(half + 63), alone(half)}, {alone(api.MaxShift - 1), {2}},
		{alone(64 * 4000), alone(64 * 96)}, {ones(api.MaxWords / 2), append(ones(api.MaxWords/2), 1)},
	} {
		z, e := nat.Mul(p[0], p[1])
		fails(t, z, e, api.ErrSize, "Mul", p[0], p[1])
		z, e = nat.Mul(p[1], p[0])
		fails(t, z, e, api.ErrSize, "Mul", p[1], p[0])
	}
	z, e := nat.Square(alone(half - 1))
	check(t, z, e, power(api.MaxShift-2), "Square", alone(half-1))
	for _, x := range []api.Nat{alone(half), alone(half + 64), most} {
		z, e = nat.Square(x)
		fails(t, z, e, api.ErrSize, "Square", x)
	}
}

// P2.3: the powers one after the other; 0 to the power of 0 is 1.
func TestPow(t *testing.T) {
	for _, x := range []api.Nat{nil, {0, 0}, {1}, {1, 0}, {2}, {10}, {top}, {half}, {0, 1}, {5, 7, 0}, {top, top, top}} {
		want := value(1)
		for k := range 40 {
			z, e := nat.Pow(x, k)
			check(t, z, e, want, "Pow", x, k)
			want = want.Times(value(x...))
		}
	}
}

// P2.3: exponents that are as great as they may be, and others.
func TestPowOfGreatExponents(t *testing.T) {
	for _, k := range []int{-1, -2, 1000001, 1 << 20, math.MinInt, math.MaxInt} {
		for _, x := range []api.Nat{nil, {1}, {2}, ones(api.MaxWords)} {
			z, e := nat.Pow(x, k)
			fails(t, z, e, api.ErrArg, "Pow", x, k)
		}
	}
	for _, k := range []int{1, 999999, 1000000} {
		z, e := nat.Pow(nil, k)
		check(t, z, e, value(), "Pow", api.Nat(nil), k)
		z, e = nat.Pow(api.Nat{1}, k)
		check(t, z, e, value(1), "Pow", api.Nat{1}, k)
	}
	most := ones(api.MaxWords)
	z, e := nat.Pow(most, 1)
	check(t, z, e, value(most...), "Pow", most, 1)
	z, e = nat.Pow(most, 0)
	check(t, z, e, value(1), "Pow", most, 0)
}

// R2: powers that are as large as they may be, and too large.
func TestLargePowers(t *testing.T) {
	for _, c := range [][2]int{{1, api.MaxShift - 1}, {64, api.MaxWords - 1}, {3, (api.MaxShift - 1) / 3}, {api.MaxShift / 2, 1}, {api.MaxShift/2 - 1, 2}} {
		x, k := alone(c[0]), c[1]
		z, e := nat.Pow(x, k)
		check(t, z, e, power(c[0]*k), "Pow", x, k)
		for _, more := range []int{k + 1, k + 2, 2 * k, 1000000} {
			if c[0]*more >= api.MaxShift {
				z, e = nat.Pow(x, more)
				fails(t, z, e, api.ErrSize, "Pow", x, more)
			}
		}
	}
	// 3^165394 is the greatest power of 3 with no more than 4096 words.
	z, e := nat.Pow(api.Nat{3}, 165394)
	if e != api.OK || nat.Len(z) != api.MaxShift {
		t.Errorf("Pow(3, 165394) has %d bits, error %d", nat.Len(z), e)
	}
	z, e = nat.Pow(api.Nat{3}, 165395)
	fails(t, z, e, api.ErrSize, "Pow", api.Nat{3}, 165395)
}

// P2.3 and P2.6: powers multiply as their exponents are added.
func TestProductsOfPowers(t *testing.T) {
	for _, x := range []api.Nat{{3}, {10}, {top, 6}, {1, 2, 3}} {
		for _, c := range [][2]int{{0, 9}, {1, 1}, {7, 12}, {100, 155}, {513, 2}} {
			a, e1 := nat.Pow(x, c[0])
			b, e2 := nat.Pow(x, c[1])
			both, e3 := nat.Pow(x, c[0]+c[1])
			z, e4 := nat.Mul(a, b)
			if e1+e2+e3+e4 != api.OK || len(z) == 0 || !slices.Equal(z, both) {
				t.Errorf("Pow%s: not the product of those of both parts", shown([]any{x, c[0] + c[1]}))
			}
		}
	}
}

// P2.2: the product of all numbers (of none: 1), for at most 1000.
func TestProduct(t *testing.T) {
	var list []api.Nat
	for _, x := range numbers() {
		if nat.Len(x) > 0 {
			list = append(list, x)
		}
	}
	want := value(1)
	for n := range list {
		z, e := nat.Product(list[:n])
		check(t, z, e, want, "Product", n)
		want = want.Times(value(list[n]...))
	}
	z, e := nat.Product([]api.Nat{})
	check(t, z, e, value(1), "Product", 0)
	for i := range 5 {
		z, e := nat.Product(slices.Insert(slices.Clone(list[:4]), i, zeros(i)))
		check(t, z, e, value(), "Product with 0 at", i)
	}
	for _, s := range []int{0, 1, 64, 262} {
		x := alone(s)
		z, e := nat.Product(slices.Repeat([]api.Nat{x}, 1000))
		check(t, z, e, power(1000*s), "Product of 1000 times", x)
		z, e = nat.Product(slices.Repeat([]api.Nat{x}, 1001))
		fails(t, z, e, api.ErrArg, "Product of 1001 times", x)
	}
}

// R2: products of many that are as large as they may be, and too large; those with a 0 are 0, however large the others are.
func TestLargeProduct(t *testing.T) {
	most := ones(api.MaxWords)
	quarter := alone(api.MaxShift / 4)
	z, e := nat.Product([]api.Nat{quarter, {1}, quarter, quarter, alone(api.MaxShift/4 - 1), {1, 0}})
	check(t, z, e, power(api.MaxShift-1), "Product")
	for _, list := range [][]api.Nat{{most, {2}}, {most, most}, {quarter, quarter, quarter, quarter}, {{2}, {1}, most}, slices.Repeat([]api.Nat{most}, 1000), slices.Repeat([]api.Nat{alone(263)}, 1000)} {
		z, e := nat.Product(list)
		fails(t, z, e, api.ErrSize, "Product", len(list))
		for _, i := range []int{0, 1, len(list)} {
			z, e := nat.Product(slices.Insert(slices.Clone(list[:min(len(list), 999)]), min(i, len(list), 999), api.Nat{0, 0}))
			check(t, z, e, value(), "Product with 0 at", i)
		}
	}
}

// P2.6: products may be taken in any order, and of a sum term by term; Square of x + 1.
func TestRing(t *testing.T) {
	list := numbers()
	for i, x := range list {
		y, w := list[(i+7)%len(list)], list[(i+31)%len(list)]
		sum, _ := nat.Add(x, y)
		whole, _ := nat.Mul(sum, w)
		xw, _ := nat.Mul(x, w)
		wy, _ := nat.Mul(w, y)
		parts, e := nat.Add(xw, wy)
		if e != api.OK || !slices.Equal(whole, parts) {
			t.Errorf("product of a sum of%s: %x, %x", shown([]any{x, y, w}), whole, parts)
		}
		left, _ := nat.Mul(xw, y)
		right, _ := nat.Mul(x, wy)
		all, e := nat.Product([]api.Nat{y, w, x})
		if e != api.OK || !slices.Equal(left, right) || !slices.Equal(left, all) {
			t.Errorf("products of%s: %x, %x, %x", shown([]any{x, y, w}), left, right, all)
		}
		next, _ := nat.Add(x, api.Nat{1})
		square, _ := nat.Square(next)
		old, _ := nat.Square(x)
		stepped, e := nat.Sum([]api.Nat{old, x, x, {1}})
		if e != api.OK || !slices.Equal(square, stepped) {
			t.Errorf("Square of 1 more than%s = %x, want %x", shown([]any{x}), square, stepped)
		}
	}
}

// P2.8: the length of a product.
func TestLenOfProduct(t *testing.T) {
	eachPair(func(x, y api.Nat) {
		z, _ := nat.Mul(x, y)
		a, b, c := nat.Len(x), nat.Len(y), nat.Len(z)
		if a > 0 && b > 0 && c != a+b && c != a+b-1 || (a == 0 || b == 0) && c != 0 {
			t.Errorf("the product of%s has %d bits, of %d and %d", shown([]any{x, y}), c, a, b)
		}
	})
}
