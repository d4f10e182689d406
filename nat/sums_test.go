package nat_test

import (
	"slices"
	"testing"

	"reckoner/api"
	"reckoner/nat"
)

// P2.2: x + y.
func TestAdd(t *testing.T) {
	eachPair(func(x, y api.Nat) {
		z, e := nat.Add(x, y)
		check(t, z, e, value(x...).Plus(value(y...)), "Add", x, y)
	})
}

// P2.2: x - y, or ErrBelow if x < y.
func TestSub(t *testing.T) {
	eachPair(func(x, y api.Nat) {
		z, e := nat.Sub(x, y)
		if value(x...).Compare(value(y...)) < 0 {
			fails(t, z, e, api.ErrBelow, "Sub", x, y)
			return
		}
		check(t, z, e, value(x...).Minus(value(y...)), "Sub", x, y)
	})
}

// R2: sums and differences of the greatest numbers, and sums that are too large.
func TestLargeSums(t *testing.T) {
	most := ones(api.MaxWords)
	for _, x := range []api.Nat{nil, {0}, {5, 0}, most} {
		z, e := nat.Sub(most, x)
		check(t, z, e, value(most...).Minus(value(x...)), "Sub", most, x)
	}
	z, e := nat.Sub(zeros(api.MaxWords), api.Nat{1})
	fails(t, z, e, api.ErrBelow, "Sub", zeros(api.MaxWords), api.Nat{1})
	z, e = nat.Sub(api.Nat{1}, most)
	fails(t, z, e, api.ErrBelow, "Sub", api.Nat{1}, most)

	upper := alone(api.MaxShift - 1)
	lower := append(ones(api.MaxWords-1), half-1)
	for _, p := range [][2]api.Nat{{most, nil}, {upper, lower}, {zeros(api.MaxWords), most}} {
		z, e := nat.Add(p[0], p[1])
		check(t, z, e, value(most...), "Add", p[0], p[1])
	}
	for _, p := range [][2]api.Nat{{most, {1}}, {{1}, most}, {upper, upper}, {most, most}, {upper, append(lower[1:], half)}} {
		z, e := nat.Add(p[0], p[1])
		fails(t, z, e, api.ErrSize, "Add", p[0], p[1])
	}
}

// P2.2: the sum of all numbers (of none: 0), for at most 1000.
func TestSum(t *testing.T) {
	list := numbers()
	want := value()
	for n := range list {
		z, e := nat.Sum(list[:n])
		check(t, z, e, want, "Sum", n)
		want = want.Plus(value(list[n]...))
	}
	z, e := nat.Sum([]api.Nat{})
	check(t, z, e, value(), "Sum", 0)
	for _, x := range []api.Nat{nil, {1}, {top}, ones(5), zeros(api.MaxWords)} {
		z, e = nat.Sum(slices.Repeat([]api.Nat{x}, 1000))
		check(t, z, e, value(x...).Times(value(1000)), "Sum of 1000 times", x)
		z, e = nat.Sum(slices.Repeat([]api.Nat{x}, 1001))
		fails(t, z, e, api.ErrArg, "Sum of 1001 times", x)
	}
}

// R2: sums of many that are as large as they may be, and too large.
func TestLargeSum(t *testing.T) {
	most := ones(api.MaxWords)
	quarter := alone(api.MaxShift - 2)
	z, e := nat.Sum([]api.Nat{quarter, nil, quarter, quarter, {1}, {0, 0}})
	check(t, z, e, value(quarter...).Times(value(3)).Plus(value(1)), "Sum of three quarters and 1")
	for _, list := range [][]api.Nat{{most, {1}}, {quarter, quarter, quarter, quarter, nil}, {{1}, nil, most, nil, {1}}, slices.Repeat([]api.Nat{most}, 1000)} {
		z, e := nat.Sum(list)
		fails(t, z, e, api.ErrSize, "Sum", len(list))
	}
}

// P2.2: with more than 1000 numbers ErrArg comes before any other error.
func TestTooManyNumbers(t *testing.T) {
	for _, x := range []api.Nat{nil, {2}, ones(api.MaxWords), zeros(api.MaxWords + 1)} {
		for _, n := range []int{1001, 1002, 5000} {
			list := slices.Repeat([]api.Nat{x}, n)
			z, e := nat.Sum(list)
			fails(t, z, e, api.ErrArg, "Sum", n, x)
			z, e = nat.Product(list)
			fails(t, z, e, api.ErrArg, "Product", n, x)
		}
	}
}

// P2.6: sums may be taken in any order, and Sub takes away what was added.
func TestSumsInAnyOrder(t *testing.T) {
	list := numbers()
	for i, x := range list {
		y, w := list[(i+11)%len(list)], list[(i+29)%len(list)]
		want := value(x...).Plus(value(y...)).Plus(value(w...))
		for _, l := range [][]api.Nat{{x, y, w}, {w, x, y}, {y, w, x}} {
			z, e := nat.Sum(l)
			check(t, z, e, want, "Sum", l[0], l[1], l[2])
			two, _ := nat.Add(l[0], l[1])
			z, e = nat.Add(two, l[2])
			check(t, z, e, want, "Add", two, l[2])
			z, e = nat.Sub(z, l[2])
			check(t, z, e, value(two...), "Sub after Add", two, l[2])
		}
	}
}
