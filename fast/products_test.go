package fast_test

import (
	"math"
	"math/bits"
	"slices"
	"testing"

	"reckoner/api"
	"reckoner/fast"
	"reckoner/internal/oracle"
	"reckoner/nat"
)

// way is a way to multiply.
type way struct {
	name  string
	times func(x, y api.Nat) (api.Nat, api.Errno)
}

// ways returns all ways, with these numbers of words from which on they take numbers apart.
func ways(leasts ...int) []way {
	list := []way{{"Mul", fast.Mul}}
	for _, least := range leasts {
		list = append(list,
			way{"Karatsuba", func(x, y api.Nat) (api.Nat, api.Errno) { return fast.Karatsuba(x, y, least) }},
			way{"Toom", func(x, y api.Nat) (api.Nat, api.Errno) { return fast.Toom(x, y, least) }})
	}
	return list
}

// squares are ways to take a square.
func squares(leasts ...int) []way {
	var list []way
	for _, least := range leasts {
		list = append(list, way{"Square", func(x, _ api.Nat) (api.Nat, api.Errno) { return fast.Square(x, least) }})
	}
	return list
}

// checkWays checks a product by all ways against that of the schoolbook, or its error.
func checkWays(t *testing.T, x, y api.Nat, list []way) {
	t.Helper()
	want, e := nat.Mul(x, y)
	for _, w := range list {
		got, e2 := w.times(x, y)
		if e != api.OK {
			fails(t, got, e2, e, w.name, x, y)
		} else {
			check(t, got, e2, want, w.name, x, y)
		}
	}
}

// P3.3, P3.5: products of short numbers, each with each, by all ways.
func TestProductsOfShortNumbers(t *testing.T) {
	list := ways(3, 4, 5, 64)
	for _, x := range numbers() {
		for _, y := range numbers() {
			checkWays(t, x, y, list)
		}
		checkWays(t, x, x, squares(3, 4, 5, 64))
	}
}

// P3.3, P3.5: products of long numbers, the shorter one of any length, by all ways.
func TestProductsOfLongNumbers(t *testing.T) {
	list := longNumbers()
	all := append(list, numbers()...)
	for i, x := range list {
		for _, at := range []int{i, i*7 + 3, i*11 + 5, i*13 + 40} {
			y := all[at%len(all)]
			checkWays(t, x, y, ways(3, 16, 63))
			checkWays(t, y, x, ways(4, 64))
		}
		checkWays(t, x, x, squares(3, 4, 17, 64))
	}
}

// P3.3: the result does not depend on when numbers are taken apart.
func TestEachLeast(t *testing.T) {
	m := oracle.Mixer(31)
	x, y := api.Nat(m.Row(130)), api.Nat(m.Row(101))
	for least := 3; least <= 64; least++ {
		checkWays(t, x, y, ways(least))
		checkWays(t, x, x, squares(least))
		near := m.Row(least + 1)
		checkWays(t, near, near[:least], ways(least))
		checkWays(t, near[:least], near[1:], ways(least))
		checkWays(t, near[1:], near[1:], squares(least))
	}
}

// P3.3: a wrong least is an error for all numbers, also where it has no effect.
func TestWrongLeast(t *testing.T) {
	for _, least := range []int{2, 1, 0, -1, -3, 65, 66, 1000, 1<<32 + 3, math.MinInt, math.MaxInt} {
		for _, x := range []api.Nat{nil, {0}, {5, 6}, ones(10), ones(api.MaxWords)} {
			for _, w := range append(ways(least)[1:], squares(least)...) {
				got, e := w.times(x, x)
				fails(t, got, e, api.ErrArg, w.name, x, least)
			}
		}
	}
}

// R2: products of the greatest numbers, and products that are too large, by little and by much.
func TestLargeProducts(t *testing.T) {
	const middle = api.MaxShift / 2
	most := ones(api.MaxWords)
	list := ways(3, 50, 64)
	for _, p := range [][2]api.Nat{
		{most, nil}, {most, {0, 0}}, {most, {1}}, {most, {2}}, {most, {1, 0, 0, 0, 0}}, {zeros(api.MaxWords), most}, {most, most},
		{ones(api.MaxWords - 2), ones(2)}, {ones(api.MaxWords - 2), ones(3)}, {alone(64*(api.MaxWords-3) - 1), alone(64*4 - 1)},
		{alone(64*(api.MaxWords-3) + 63), alone(64*2 + 62)}, {alone(64*(api.MaxWords-3) + 1), alone(64*2 + 63)},
		{ones(api.MaxWords - 60), ones(60)}, {ones(api.MaxWords - 60), ones(61)}, {alone(64*(api.MaxWords-61) + 3), alone(64*60 + 60)}, {alone(64*(api.MaxWords-61) + 4), alone(64*60 + 60)},
		{ones(3000), ones(api.MaxWords - 3000)}, {alone(64 * 3000), alone(64 * (api.MaxWords - 3000))}, {alone(64 * 3000), alone(64*(api.MaxWords-3000) - 1)},
		{alone(middle), alone(middle)}, {alone(middle), alone(middle - 1)}, {ones(api.MaxWords / 2), ones(api.MaxWords / 2)}, {ones(api.MaxWords / 2), append(ones(api.MaxWords/2), 1)}, {ones(api.MaxWords / 2), alone(middle)},
		{alone(middle + 64), alone(middle)},
	} {
		checkWays(t, p[0], p[1], list)
		checkWays(t, p[1], p[0], list)
	}
	for _, x := range []api.Nat{most, ones(api.MaxWords / 2), alone(middle), alone(middle - 1), alone(middle + 63), append(ones(api.MaxWords/2), 1), append(ones(api.MaxWords/2), 0, 0)} {
		checkWays(t, x, x, append(list, squares(3, 64)...))
	}
	m := oracle.Mixer(37)
	for _, n := range []int{1, 60, 700, api.MaxWords / 2} {
		checkWays(t, m.Row(api.MaxWords-n), m.Row(n), list)
	}
}

// lowProduct returns what x y leaves by 2^(64 n), word by word.
func lowProduct(x, y api.Nat, n int) api.Nat {
	z := zeros(n)
	for i := range min(n, len(x)) {
		var carry uint64
		for j := range min(n-i, len(y)) {
			high, low := bits.Mul64(x[i], y[j])
			low, more := bits.Add64(low, carry, 0)
			high += more
			z[i+j], more = bits.Add64(z[i+j], low, 0)
			carry = high + more
		}
		if i+len(y) < n {
			z[i+len(y)] = carry
		}
	}
	return nat.Trim(z)
}

func checkLow(t *testing.T, x, y api.Nat, n int) {
	t.Helper()
	got, e := fast.LowMul(x, y, n)
	check(t, got, e, lowProduct(x, y, n), "LowMul", x, y, n)
}

// P3.3: what a product leaves, cut anywhere.
func TestLowMul(t *testing.T) {
	list := numbers()
	for i, x := range list {
		for j, y := range list {
			for n := (i + j) % 3; n <= len(x)+len(y)+1; n += 3 {
				checkLow(t, x, y, n)
			}
			checkLow(t, x, y, api.MaxWords)
		}
	}
	list = longNumbers()
	for i, x := range list {
		y := list[(i*17+9)%len(list)]
		for _, n := range []int{0, 1, 2, 49, 50, 51, 98, 101, 160, 161, len(x) - 1, len(x), len(x) + 1, len(x) + len(y) - 1, len(x) + len(y)} {
			checkLow(t, x, y, n)
			checkLow(t, y, x, n)
		}
	}
}

// P3.3: what a product leaves that would be too large itself.
func TestLowMulOfTooLargeProducts(t *testing.T) {
	m := oracle.Mixer(43)
	most, mixed := ones(api.MaxWords), api.Nat(m.Row(api.MaxWords))
	for _, n := range []int{0, 1, 2, 3, 64, 999, 2047, 2048, 2049, 4093, 4094, 4095, 4096} {
		for _, p := range [][2]api.Nat{{most, most}, {mixed, mixed}, {mixed, m.Row(api.MaxWords)}, {mixed, most}, {mixed, m.Row(2)}, {m.Row(3), mixed}, {mixed, m.Row(2100)}, {mixed, alone(api.MaxShift - 1)}, {alone(api.MaxShift / 2), alone(api.MaxShift / 2)}} {
			checkLow(t, p[0], p[1], n)
		}
	}
}

// P3.3: numbers of words that are not left.
func TestLowMulOfWrongWords(t *testing.T) {
	for _, n := range []int{-1, -2, -4096, 4097, 4098, 1 << 32, math.MinInt, math.MaxInt} {
		for _, x := range []api.Nat{nil, {0}, {5, 6}, ones(api.MaxWords)} {
			got, e := fast.LowMul(x, x, n)
			fails(t, got, e, api.ErrArg, "LowMul", x, x, n)
		}
	}
}

// P3.3: LowMul of as many words as the product has is the product.
func TestLowMulOfWholeProducts(t *testing.T) {
	list := longNumbers()
	for i, x := range list {
		y := list[(i*5+2)%len(list)]
		want, _ := nat.Mul(x, y)
		got, e := fast.LowMul(x, y, len(want))
		check(t, got, e, want, "LowMul", x, y, len(want))
		less, e := fast.LowMul(x, y, len(want)-1)
		if e != api.OK || slices.Equal(less, got) {
			t.Errorf("LowMul%s: the highest word is left too", shown(x, y, len(want)-1))
		}
	}
}
