package fast_test

import (
	"math"
	"slices"
	"testing"

	"reckoner/api"
	"reckoner/fast"
	"reckoner/internal/oracle"
	"reckoner/nat"
)

// cut returns the pieces of x of n words, word by word.
func cut(x api.Nat, n int) []api.Nat {
	var l []api.Nat
	for i, w := range nat.Trim(x) {
		if i%n == 0 {
			l = append(l, zeros(n))
		}
		l[i/n][i%n] = w
	}
	for i := range l {
		l[i] = nat.Trim(l[i])
	}
	return l
}

func checkSplit(t *testing.T, x api.Nat, n int) {
	t.Helper()
	got, e := fast.Split(x, n)
	if want := cut(x, n); e != api.OK || !same(got, want) {
		t.Errorf("Split%s: error %d,%s; want%s", shown(x, n), e, shown(got), shown(want))
	}
}

// P3.1: the pieces, the last one not 0; those between may be.
func TestSplit(t *testing.T) {
	for _, x := range append(numbers(), api.Nat{5, 0, 1}, api.Nat{0, 0, 0, 0, 7}, api.Nat{0, 0, 3, 0, 0, 9, 0, 0}) {
		for _, n := range []int{1, 2, 3, 4, 5, 9, 10, 11, 999, 1000} {
			checkSplit(t, x, n)
		}
	}
	for _, n := range []int{1, 2, 63, 999, 1000} {
		checkSplit(t, ones(api.MaxWords), n)
		checkSplit(t, alone(api.MaxShift-1), n)
		checkSplit(t, zeros(api.MaxWords), n)
	}
	got, e := fast.Split(api.Nat{5, 0, 1}, 1)
	if e != api.OK || !same(got, []api.Nat{{5}, nil, {1}}) {
		t.Errorf("Split of 2^128 + 5 by one word:%s, error %d", shown(got), e)
	}
}

// wrongPieces are numbers of words that pieces do not have.
var wrongPieces = []int{0, -1, -1000, 1001, 1 << 32, math.MinInt, math.MaxInt}

// P3.1: pieces that are none.
func TestSplitOfWrongPieces(t *testing.T) {
	for _, x := range []api.Nat{nil, {0, 0}, {1, 2}, ones(api.MaxWords)} {
		for _, n := range wrongPieces {
			if got, e := fast.Split(x, n); e != api.ErrArg || len(got) != 0 {
				t.Errorf("Split%s: error %d,%s", shown(x, n), e, shown(got))
			}
		}
	}
}

// joined returns the sum of l[i] 2^(64 n i).
func joined(l []api.Nat, n int) api.Nat {
	var sum oracle.Number
	for i, x := range l {
		sum = sum.Plus(oracle.Value(x...).Above(n * i))
	}
	return sum.Words()
}

// P3.1: the sum of the pieces at their places, also of those that are longer than a piece.
func TestJoin(t *testing.T) {
	list := numbers()
	for n := 1; n <= 12; n++ {
		for i := range list {
			l := append(slices.Clone(list[i:min(i+7, len(list))]), nil, zeros(3))
			got, e := fast.Join(l, n)
			check(t, got, e, joined(l, n), "Join", l, n)
		}
	}
	for _, n := range []int{1, 7, 1000} {
		got, e := fast.Join(nil, n)
		check(t, got, e, nil, "Join", []api.Nat{}, n)
		carried := []api.Nat{ones(2 * n), ones(n), ones(n), ones(n)}
		got, e = fast.Join(carried, n)
		check(t, got, e, joined(carried, n), "Join", carried, n)
	}
}

// P3.1: lists that are too long, and pieces that are none.
func TestJoinOfWrongPieces(t *testing.T) {
	for _, l := range [][]api.Nat{nil, {{1}, {2}}, {ones(api.MaxWords), {1}}, make([]api.Nat, 5001)} {
		for _, n := range wrongPieces {
			got, e := fast.Join(l, n)
			fails(t, got, e, api.ErrArg, "Join", l, n)
		}
	}
	for _, x := range []api.Nat{nil, {0}, {1}, ones(api.MaxWords)} {
		for _, n := range []int{1, 1000} {
			l := slices.Repeat([]api.Nat{x}, 5001)
			got, e := fast.Join(l, n)
			fails(t, got, e, api.ErrArg, "Join", l, n)
		}
	}
}

// P3.1: as many pieces as there may be; those that are 0 may be at any place.
func TestJoinOfManyPieces(t *testing.T) {
	for _, n := range []int{1, 3, 1000} {
		l := make([]api.Nat, 5000)
		l[4999] = zeros(api.MaxWords)
		got, e := fast.Join(l, n)
		check(t, got, e, nil, "Join", l, n)
		l[0], l[1] = api.Nat{3}, api.Nat{8, 0}
		got, e = fast.Join(l, n)
		check(t, got, e, append(append(api.Nat{3}, zeros(n-1)...), 8), "Join", l, n)
		l[4999] = api.Nat{1}
		got, e = fast.Join(l, n)
		fails(t, got, e, api.ErrSize, "Join", l, n)
	}
	l := slices.Repeat([]api.Nat{{top, top}}, api.MaxWords-2)
	got, e := fast.Join(l, 1)
	check(t, got, e, joinedByCarries(l), "Join", l, 1)
	got, e = fast.Join(append(l, l[0]), 1)
	fails(t, got, e, api.ErrSize, "Join", append(l, l[0]), 1)
}

// joinedByCarries returns the sum of l[i] 2^(64 i), each of them less than 2^128, by sums one after the other from the last one on.
func joinedByCarries(l []api.Nat) api.Nat {
	var sum api.Nat
	for _, x := range slices.Backward(l) {
		sum, _ = nat.Left(sum, 64)
		sum, _ = nat.Add(sum, x)
	}
	return sum
}

// R2: sums that are as large as they may be, and too large.
func TestJoinOfLargePieces(t *testing.T) {
	most := ones(api.MaxWords)
	upper := alone(api.MaxShift - 1)
	for _, n := range []int{1, 96, 1000} {
		for _, l := range [][]api.Nat{{most}, {most, nil}, {zeros(api.MaxWords), ones(api.MaxWords - n)}, {ones(n), ones(api.MaxWords - n)}, {upper, ones(api.MaxWords - n)[1:]}} {
			got, e := fast.Join(l, n)
			check(t, got, e, joined(l, n), "Join", l, n)
		}
		for _, l := range [][]api.Nat{{most, {1}}, {nil, ones(api.MaxWords - n + 1)}, {ones(n + 1), ones(api.MaxWords - n)}, {upper, alone(64*(api.MaxWords-n) - 1)}, {nil, most}, {most, most, most}} {
			got, e := fast.Join(l, n)
			fails(t, got, e, api.ErrSize, "Join", l, n)
		}
	}
	// The last one has room, but not with what the ones before carry.
	l := slices.Repeat([]api.Nat{{top}}, api.MaxWords)
	got, e := fast.Join(l, 1)
	check(t, got, e, most, "Join", l, 1)
	l[0] = api.Nat{0, 1}
	got, e = fast.Join(l, 1)
	fails(t, got, e, api.ErrSize, "Join", l, 1)
	l = slices.Repeat([]api.Nat{most}, 5000)
	got, e = fast.Join(l, 1)
	fails(t, got, e, api.ErrSize, "Join", l, 1)
}

// P3.5: Join of Split is the number.
func TestJoinOfSplit(t *testing.T) {
	for _, x := range append(slices.Concat(numbers(), longNumbers()), ones(api.MaxWords)) {
		for _, n := range []int{1, 2, 3, 7, 50, 1000} {
			l, e1 := fast.Split(x, n)
			got, e2 := fast.Join(l, n)
			check(t, got, e1+e2, nat.Trim(x), "Join of Split", x, n)
		}
	}
}

// P3.5: Join of the products of pieces, gathered by the sums of their indices, is the product.
func TestJoinOfProducts(t *testing.T) {
	list := append(numbers(), longNumbers()...)
	for i, x := range list {
		y := list[(i*31+11)%len(list)]
		n := i%5 + 3
		l, e1 := fast.Split(x, n)
		k, e2 := fast.Split(y, n)
		gathered := make([]api.Nat, len(l)+len(k))
		for i := range l {
			for j := range k {
				z, _ := fast.Mul(l[i], k[j])
				gathered[i+j], _ = nat.Add(gathered[i+j], z)
			}
		}
		got, e3 := fast.Join(gathered, n)
		want, _ := nat.Mul(x, y)
		check(t, got, e1+e2+e3, want, "Join of products of pieces", x, y, n)
	}
}
