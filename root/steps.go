package root

import (
	"iter"
	"math/bits"

	"reckoner/api"
	"reckoner/divide"
	"reckoner/internal/rows"
	"reckoner/nat"
)

// step returns floor(((k - 1) s + floor(x / s^(k - 1))) / k): where the tangent at s leads. It is not less than the greatest s with s^k <= x, and less than an s that is greater than that.
func step(x api.Nat, k int, s api.Nat) api.Nat {
	var q api.Nat // 0, if the power is longer than a number may be
	if power, e := nat.Pow(s, k-1); e == api.OK {
		q, _, _ = divide.DivMod(x, power)
	}
	z, _ := nat.Mul(s, nat.FromWord(uint64(k-1)))
	z, _ = nat.Add(z, q)
	z, _, _ = nat.DivWord(z, uint64(k))
	return z
}

// steps gives Newton's steps to the k-th root of x: begin, which is not less than it and not 0, and what follows as long as it becomes less.
func steps(x api.Nat, k int, begin api.Nat) iter.Seq[api.Nat] {
	return func(yield func(api.Nat) bool) {
		for s := begin; yield(s); {
			next := step(x, k, s)
			if nat.Cmp(next, s) >= 0 {
				return
			}
			s = next
		}
	}
}

// bySteps returns the greatest s with s^k <= x, for a k of at least 2.
func bySteps(x api.Nat, k int) api.Nat {
	length := nat.Len(x)
	if length == 0 {
		return nil
	}
	n := (length-1)/k + 1 // the length of the root
	if n == 1 {
		return one()
	}
	cut := cutOf(n, k)
	high, _ := nat.Right(x, cut*k)
	s := bySteps(high, k)
	// The root begins with the bits of s. The steps come from above.
	lowest, _ := nat.Sub(shifted(one(), cut, nil), one())
	for s = range steps(x, k, shifted(s, cut, lowest)) {
	}
	return s
}

// cutOf returns how many bits of a k-th root of n bits are left to the steps: so many that nearly always the first step finds them, or the next one if there are too few for that.
func cutOf(n, k int) int {
	// A step leaves less than k / 2 times the square of the difference to the root, both by the root. That these are less than 1/8 of the last bit takes, of the bits that are known, half of all and half of those of k, and a few more.
	return max(1, (n-bits.Len(uint(k)))/2-2)
}

// Newton returns the greatest s with s s <= x.
func Newton(x api.Nat) (api.Nat, api.Errno) {
	if e := rows.CheckSizes(x); e != api.OK {
		return nil, e
	}
	return bySteps(x, 2), api.OK
}

// maxBegin is the greatest number of words of a number with which a caller's steps begin.
const maxBegin = 64

// belowRoot tells whether s is less than the square root of x.
func belowRoot(s, x api.Nat) bool {
	next, _ := nat.Add(s, one())
	square, _ := nat.Square(next)
	return nat.Cmp(square, x) <= 0
}

// Steps returns Newton's steps to the square root of x, from begin on.
func Steps(x, begin api.Nat) ([]api.Nat, api.Errno) {
	if e := rows.CheckSizes(x, begin); e != api.OK {
		return nil, e
	}
	begin = nat.Trim(begin)
	if nat.Len(x) == 0 || len(begin) > maxBegin || belowRoot(begin, x) {
		return nil, api.ErrArg
	}
	var l []api.Nat
	for s := range steps(x, 2, begin) {
		l = append(l, s)
	}
	return l, api.OK
}
