package nat_test

import (
	"math"
	"slices"
	"testing"

	"reckoner/api"
	"reckoner/internal/oracle"
	"reckoner/nat"
)

// beyond returns numbers with more words than a call with an Errno takes, and 0 in as many.
func beyond() []api.Nat {
	m := oracle.Mixer(3)
	n := 2*api.MaxWords + 5
	mixed := m.Row(n)
	lower := slices.Clone(mixed)
	lower[0]--
	return []api.Nat{zeros(n), mixed, lower, m.Row(n), m.Row(n + 1), append(zeros(n), 1), append(slices.Clone(lower), 0, 0), append(api.Nat{7}, zeros(n)...)}
}

// bitsOf returns the length in bits, the bits 0 below the lowest bit 1, and the number of bits 1, by one bit after the other.
func bitsOf(x api.Nat) (length, trailing, set int) {
	n := value(x...)
	for i := range 64 * len(x) {
		if !n.Bit(i) {
			continue
		}
		if set == 0 {
			trailing = i
		}
		set++
		length = i + 1
	}
	return length, trailing, set
}

// P2.1: the same value, canonical.
func TestTrim(t *testing.T) {
	for _, x := range append(numbers(), beyond()...) {
		check(t, nat.Trim(x), api.OK, value(x...), "Trim", x)
	}
}

// P2.1: -1, 0 or 1, by values, of numbers of any length.
func TestCmp(t *testing.T) {
	compare := func(x, y api.Nat) {
		if got, want := nat.Cmp(x, y), value(x...).Compare(value(y...)); got != want {
			t.Errorf("Cmp%s = %d, want %d", shown([]any{x, y}), got, want)
		}
	}
	eachPair(compare)
	for _, x := range beyond() {
		for _, y := range append(beyond(), nil, api.Nat{7}, api.Nat{8}) {
			compare(x, y)
			compare(y, x)
		}
	}
}

// P2.1: the length in bits; the bits 0 below the lowest bit 1, and the bits 1.
func TestLenAndBits(t *testing.T) {
	list := append(numbers(), beyond()...)
	for s := range 200 {
		less := append(ones(s/64), 1<<(s%64)-1)
		list = append(list, alone(s), less, append(alone(s), 0, 0), slices.Concat(zeros(2), less))
	}
	for _, x := range list {
		length, trailing, set := bitsOf(x)
		if got := nat.Len(x); got != length {
			t.Errorf("Len%s = %d, want %d", shown([]any{x}), got, length)
		}
		if a, b := nat.Bits(x); a != trailing || b != set {
			t.Errorf("Bits%s = %d, %d, want %d, %d", shown([]any{x}), a, b, trailing, set)
		}
	}
}

// P2.1: numbers of one word, there and back.
func TestFromWord(t *testing.T) {
	for _, w := range append(edges(), 2, 10, 1<<32) {
		x := nat.FromWord(w)
		check(t, x, api.OK, value(w), "FromWord", w)
		if got, ok := nat.Word(x); got != w || !ok {
			t.Errorf("Word(FromWord(%x)) = %x, %v", w, got, ok)
		}
	}
}

// P2.1: the value and true if it is less than 2^64, otherwise 0 and false.
func TestWord(t *testing.T) {
	for _, x := range append(numbers(), beyond()...) {
		var want uint64
		small := value(x...).Compare(power(64)) < 0
		if small && len(x) > 0 {
			want = x[0]
		}
		if got, ok := nat.Word(x); got != want || ok != small {
			t.Errorf("Word%s = %x, %v, want %x, %v", shown([]any{x}), got, ok, want, small)
		}
	}
}

// P2.5: whether the bit of 2^i is 1, at any place.
func TestBit(t *testing.T) {
	for _, x := range append(numbers(), beyond()[1]) {
		n := value(x...)
		for i := range 64*len(x) + 130 {
			if got := nat.Bit(x, i); got != n.Bit(i) {
				t.Errorf("Bit%s = %v", shown([]any{x, i}), got)
			}
		}
		for _, i := range []int{-1, -2, -63, -64, -65, -128, math.MinInt, math.MaxInt, math.MaxInt - 63, api.MaxShift * 3} {
			if nat.Bit(x, i) {
				t.Errorf("Bit%s = true", shown([]any{x, i}))
			}
		}
	}
}
