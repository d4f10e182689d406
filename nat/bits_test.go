package nat_test

import (
	"math"
	"testing"

	"reckoner/api"
	"reckoner/internal/oracle"
	"reckoner/nat"
)

// shifts returns numbers of bits on both sides of the edges of words.
func shifts() []int {
	return []int{0, 1, 5, 62, 63, 64, 65, 127, 128, 129, 190, 256, 500, 576, 577, 4000}
}

// P2.5: x 2^s; floor(x / 2^s) and what is left.
func TestShifts(t *testing.T) {
	for _, x := range numbers() {
		for _, s := range shifts() {
			z, e := nat.Left(x, s)
			check(t, z, e, value(x...).Times(power(s)), "Left", x, s)

			var above, below oracle.Number
			for i := range 64 * len(x) {
				switch {
				case !value(x...).Bit(i):
				case i < s:
					below = below.Plus(power(i))
				default:
					above = above.Plus(power(i - s))
				}
			}
			z, e = nat.Right(x, s)
			check(t, z, e, above, "Right", x, s)
			z, e = nat.Low(x, s)
			check(t, z, e, below, "Low", x, s)
		}
	}
}

// P2.5: shifts that are as great as they may be.
func TestGreatShifts(t *testing.T) {
	most := ones(api.MaxWords)
	for _, s := range []int{api.MaxShift - 64, api.MaxShift - 63, api.MaxShift - 1, api.MaxShift} {
		rest := api.MaxShift - s
		z, e := nat.Right(most, s)
		check(t, z, e, power(rest).Minus(value(1)), "Right", most, s)
		z, e = nat.Low(most, s)
		check(t, z, e, power(s).Minus(value(1)), "Low", most, s)
		for _, x := range []api.Nat{nil, {0}, zeros(api.MaxWords)} {
			z, e = nat.Left(x, s)
			check(t, z, e, value(), "Left", x, s)
		}
		for _, x := range numbers() {
			z, e = nat.Left(x, s)
			if nat.Len(x) == 0 || nat.Len(x) <= rest {
				check(t, z, e, value(x...).Times(power(s)), "Left", x, s)
			} else {
				fails(t, z, e, api.ErrSize, "Left", x, s)
			}
			z, e = nat.Right(x, s)
			check(t, z, e, value(), "Right", x, s)
			z, e = nat.Low(x, s)
			check(t, z, e, value(x...), "Low", x, s)
		}
	}
	z, e := nat.Left(most, 0)
	check(t, z, e, value(most...), "Left", most, 0)
	for _, s := range []int{1, 63, 64, 65, api.MaxShift} {
		z, e = nat.Left(most, s)
		fails(t, z, e, api.ErrSize, "Left", most, s)
	}
}

// P2.5: numbers of bits, and places, that are out of range.
func TestShiftsOutOfRange(t *testing.T) {
	for _, x := range []api.Nat{nil, {1}, {top, 0}, ones(api.MaxWords)} {
		for _, s := range []int{-1, -63, -64, -65, api.MaxShift + 1, api.MaxShift + 64, 1 << 40, math.MinInt, math.MaxInt} {
			z, e := nat.Left(x, s)
			fails(t, z, e, api.ErrArg, "Left", x, s)
			z, e = nat.Right(x, s)
			fails(t, z, e, api.ErrArg, "Right", x, s)
			z, e = nat.Low(x, s)
			fails(t, z, e, api.ErrArg, "Low", x, s)
		}
		for _, i := range []int{-1, -64, -65, api.MaxShift, api.MaxShift + 1, 1 << 40, math.MinInt, math.MaxInt} {
			for _, bit := range []bool{false, true} {
				z, e := nat.SetBit(x, i, bit)
				fails(t, z, e, api.ErrArg, "SetBit", x, i, bit)
			}
		}
	}
}

// P2.5: x with one bit as it is told.
func TestSetBit(t *testing.T) {
	for _, x := range append(numbers(), ones(api.MaxWords)) {
		for _, i := range append(shifts(), api.MaxShift-64, api.MaxShift-2, api.MaxShift-1) {
			with, without := value(x...), value(x...)
			if with.Bit(i) {
				without = without.Minus(power(i))
			} else {
				with = with.Plus(power(i))
			}
			z, e := nat.SetBit(x, i, true)
			check(t, z, e, with, "SetBit", x, i, true)
			z, e = nat.SetBit(x, i, false)
			check(t, z, e, without, "SetBit", x, i, false)
		}
	}
}

// digitwise joins two numbers digit by digit.
func digitwise(x, y api.Nat, join func(a, b int) int) oracle.Number {
	n := max(len(x), len(y))
	a, b := value(x...).Plus(power(64*n)), value(y...).Plus(power(64*n))
	z := make(oracle.Number, 8*n)
	for i := range z {
		z[i] = join(a[i], b[i])
	}
	return z
}

// P2.5: the bits of both numbers, joined.
func TestAndOrXor(t *testing.T) {
	try := func(x, y api.Nat) {
		z, e := nat.And(x, y)
		check(t, z, e, digitwise(x, y, func(a, b int) int { return a & b }), "And", x, y)
		z, e = nat.Or(x, y)
		check(t, z, e, digitwise(x, y, func(a, b int) int { return a | b }), "Or", x, y)
		z, e = nat.Xor(x, y)
		check(t, z, e, digitwise(x, y, func(a, b int) int { return a ^ b }), "Xor", x, y)
	}
	eachPair(try)
	most := ones(api.MaxWords)
	for _, x := range []api.Nat{nil, {5}, alone(api.MaxShift - 1), most} {
		try(x, most)
		try(most, x)
	}
}

// P2.7: the sum of And and Or is that of both numbers; Xor is Or less And.
func TestAndOrXorTogether(t *testing.T) {
	eachPair(func(x, y api.Nat) {
		and, _ := nat.And(x, y)
		or, _ := nat.Or(x, y)
		xor, e := nat.Xor(x, y)
		sum, _ := nat.Add(x, y)
		check(t, xor, e, value(or...).Minus(value(and...)), "Xor", x, y)
		check(t, sum, e, value(or...).Plus(value(and...)), "Add", x, y)
	})
}

// P2.7: Left and Right are a product and a quotient by a power of 2, and Low is the remainder.
func TestShiftsAreProductsAndQuotients(t *testing.T) {
	for _, x := range numbers() {
		for _, s := range shifts() {
			two, _ := nat.Pow(api.Nat{2}, s)
			left, e := nat.Left(x, s)
			product, _ := nat.Mul(x, two)
			check(t, left, e, value(product...), "Left", x, s)
			q, r, _ := nat.DivMod(x, two)
			right, e := nat.Right(x, s)
			check(t, right, e, value(q...), "Right", x, s)
			low, e := nat.Low(x, s)
			check(t, low, e, value(r...), "Low", x, s)
		}
	}
}
