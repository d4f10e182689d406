package ntt_test

import (
	"math"
	"slices"
	"testing"

	"reckoner/api"
	"reckoner/internal/oracle"
	"reckoner/nat"
	"reckoner/ntt"
)

var (
	zeros = oracle.Zeros
	ones  = oracle.Ones
	alone = oracle.Alone
)

// numbers returns numbers of many lengths: in which carries go far, of which words or digits are 0, and mixed ones, some of them with words that are 0 at the end.
func numbers() []api.Nat {
	list := []api.Nat{nil, {0}, {1}, {0, 0, 0}, {oracle.Top, 0}, {255}, {256}, {1 << 32}, {1<<32 - 1, 0, 1 << 16}}
	m := oracle.Mixer(41)
	for _, n := range []int{1, 2, 3, 4, 5, 8, 17, 33} {
		gapped := api.Nat(m.Row(n))
		clear(gapped[n/3 : n-n/3])
		list = append(list, ones(n), alone(64*n-1), alone(64*n-8), alone(64*n-64), append(alone(64*n-17), 0), gapped, m.Row(n))
	}
	return list
}

// digitsOf returns the digits of x, bit by bit.
func digitsOf(x api.Nat, size int) []uint64 {
	n := oracle.Value(x...)
	l := make([]uint64, 64*len(x)/size)
	for i := range l {
		for b := range size {
			if n.Bit(size*i + b) {
				l[i] |= 1 << b
			}
		}
	}
	for len(l) > 0 && l[len(l)-1] == 0 {
		l = l[:len(l)-1]
	}
	return l
}

// joined returns the sum of l[i] 2^(size i), in the oracle's digits of any size.
func joined(l []uint64, size int) api.Nat {
	sum := make(oracle.Number, len(l)*size/8+8)
	for i, w := range l {
		for j, d := range oracle.Value(w) {
			sum[i*size/8+j] += d
		}
	}
	return sum.Words()
}

// P4.4: the digits of numbers, the last one not 0.
func TestDigits(t *testing.T) {
	m := oracle.Mixer(43)
	for _, x := range append(numbers(), m.Row(api.MaxWords), ones(api.MaxWords), zeros(api.MaxWords), alone(api.MaxShift-1), append(api.Nat{7}, zeros(api.MaxWords-1)...)) {
		for _, size := range []int{8, 16, 32} {
			got, e := ntt.Digits(x, size)
			check(t, got, e, digitsOf(x, size), "Digits", x, size)
		}
	}
	got, e := ntt.Digits(api.Nat{0x8877665544332211, 0x99}, 16)
	check(t, got, e, []uint64{0x2211, 0x4433, 0x6655, 0x8877, 0x99}, "Digits", api.Nat{0x8877665544332211, 0x99}, 16)
}

// wrongSizes are numbers of bits that digits do not have.
var wrongSizes = []int{0, -1, -8, -16, -32, 1, 2, 4, 7, 9, 15, 17, 24, 31, 33, 64, 128, 1<<32 + 8, 1<<32 + 16, math.MinInt, math.MaxInt}

// P4.4: digits that are none.
func TestDigitsOfWrongSizes(t *testing.T) {
	for _, size := range wrongSizes {
		for _, x := range []api.Nat{nil, {0}, {5}, {5, 6, 7}, ones(api.MaxWords)} {
			got, e := ntt.Digits(x, size)
			fails(t, got, e, api.ErrArg, "Digits", x, size)
		}
		for _, l := range [][]uint64{nil, {0}, {5}, {5, 6, 7}, zeros(1 << 18), ones(1 << 18), zeros(1<<18 + 1)} {
			got, e := ntt.Join(l, size)
			fails(t, got, e, api.ErrArg, "Join", l, size)
		}
	}
}

// P4.4: the sum of elements at their places, also of those that are longer than a digit.
func TestJoin(t *testing.T) {
	m := oracle.Mixer(47)
	for n := range 40 {
		for _, l := range [][]uint64{ones(n), m.Row(n), zeros(n), append(zeros(n), 1), append(zeros(n), oracle.Top), append(append(m.Row(n), 0, 0, 0, 0, 0, 0, 0, 0), 1, 0), slices.Repeat([]uint64{oracle.Half}, n), slices.Repeat([]uint64{255, 0}, n)} {
			for _, size := range []int{8, 16, 32} {
				got, e := ntt.Join(l, size)
				check(t, got, e, joined(l, size), "Join", l, size)
			}
		}
	}
	// The carry of all that is there goes up to a word of its own.
	for _, size := range []int{8, 16, 32} {
		l := slices.Repeat([]uint64{1<<size - 1}, 128/size)
		l[0]++
		got, e := ntt.Join(l, size)
		check(t, got, e, []uint64{0, 0, 1}, "Join", l, size)
	}
}

// P4.4: as many elements as there may be; those that are 0 may be at any place.
func TestJoinOfManyElements(t *testing.T) {
	for _, size := range []int{8, 16, 32} {
		l := zeros(1 << 18)
		got, e := ntt.Join(l, size)
		check(t, got, e, nil, "Join", l, size)
		l[0], l[128/size] = 5, 7
		got, e = ntt.Join(l, size)
		check(t, got, e, []uint64{5, 0, 7}, "Join", l, size)
		l[1<<18-1] = 1
		got, e = ntt.Join(l, size)
		fails(t, got, e, api.ErrSize, "Join", l, size)
		for _, l := range [][]uint64{zeros(1<<18 + 1), append([]uint64{5}, zeros(1<<18)...), ones(1<<18 + 1), zeros(1 << 20)} {
			got, e = ntt.Join(l, size)
			fails(t, got, e, api.ErrArg, "Join", l, size)
		}
	}
}

// R2: sums that are as large as they may be, and too large.
func TestJoinOfLargeSums(t *testing.T) {
	m := oracle.Mixer(53)
	for _, size := range []int{8, 16, 32} {
		most := api.MaxShift / size
		l := make([]uint64, most)
		for i := range l {
			l[i] = m.Next() % (1 << size)
		}
		l[most-1] |= 1
		got, e := ntt.Join(l, size)
		check(t, got, e, joined(l, size), "Join", l, size)
		for i := range l {
			l[i] = 1<<size - 1
		}
		got, e = ntt.Join(l, size)
		check(t, got, e, ones(api.MaxWords), "Join", l, size)
		l[0]++ // which is carried to beyond the last word
		got, e = ntt.Join(l, size)
		fails(t, got, e, api.ErrSize, "Join", l, size)
		got, e = ntt.Join(append(zeros(most), 1), size)
		fails(t, got, e, api.ErrSize, "Join of one above the last word", size)
		got, e = ntt.Join(append(zeros(most-1), 1<<size), size)
		fails(t, got, e, api.ErrSize, "Join of a carry above the last word", size)
		got, e = ntt.Join(append(zeros(most-64/size), oracle.Top), size)
		check(t, got, e, append(zeros(api.MaxWords-1), oracle.Top), "Join of a last word", size)
		got, e = ntt.Join(append(zeros(most-64/size+1), oracle.Top), size)
		fails(t, got, e, api.ErrSize, "Join of a word above the last", size)
		got, e = ntt.Join(ones(1<<18), size)
		fails(t, got, e, api.ErrSize, "Join of ones", size)
	}
}

// P4.4: Join of Digits is the number.
func TestJoinOfDigits(t *testing.T) {
	m := oracle.Mixer(59)
	for _, x := range append(numbers(), m.Row(api.MaxWords), ones(api.MaxWords)) {
		for _, size := range []int{8, 16, 32} {
			l, e1 := ntt.Digits(x, size)
			got, e2 := ntt.Join(l, size)
			check(t, got, e1+e2, nat.Trim(x), "Join of Digits", x, size)
		}
	}
}

// checkMul checks a product against that of the schoolbook, or its error, and a square.
func checkMul(t *testing.T, x, y api.Nat) {
	t.Helper()
	for _, p := range [][2]api.Nat{{x, y}, {y, x}} {
		want, wrong := nat.Mul(p[0], p[1])
		got, e := ntt.Mul(p[0], p[1])
		if wrong != api.OK {
			fails(t, got, e, wrong, "Mul", p[0], p[1])
		} else {
			check(t, got, e, want, "Mul", p[0], p[1])
		}
	}
	want, wrong := nat.Square(x)
	got, e := ntt.Square(x)
	if wrong != api.OK {
		fails(t, got, e, wrong, "Square", x)
	} else {
		check(t, got, e, want, "Square", x)
	}
}

// P4.5, P4.8: products of short numbers, each with each.
func TestMul(t *testing.T) {
	for i, x := range numbers() {
		for _, y := range numbers()[i:] {
			checkMul(t, x, y)
		}
	}
	got, e := ntt.Square(api.Nat{oracle.Top})
	check(t, got, e, []uint64{1, oracle.Top - 1}, "Square", oracle.Top)
}

// P4.5, P4.8: products of numbers of any length, also about those at which a transform gets longer.
func TestMulOfAllLengths(t *testing.T) {
	m := oracle.Mixer(61)
	for n := 1; n <= 70; n++ {
		checkMul(t, m.Row(n), m.Row(n))
		checkMul(t, ones(n), m.Row(70-n))
	}
	for _, n := range []int{127, 128, 129, 255, 257, 500, 513, 1000, 1024} {
		checkMul(t, m.Row(n), m.Row(n))
		checkMul(t, ones(n), ones(n+1))
		checkMul(t, m.Row(n), m.Row(3))
	}
}

// P4.5, R2: products of the greatest numbers, and products that are too large, by little and by much.
func TestMulOfLargeNumbers(t *testing.T) {
	const half = api.MaxWords / 2
	most := ones(api.MaxWords)
	m := oracle.Mixer(67)
	for _, p := range [][2]api.Nat{
		{most, nil}, {most, zeros(api.MaxWords)}, {most, {1}}, {most, {2}}, {most, {1, 0, 0}}, {most, most},
		{ones(half), ones(half)}, {ones(half), ones(half + 1)}, {append(ones(half), 1), ones(half)}, {ones(half + 1), ones(half + 1)},
		{alone(32 * api.MaxWords), alone(32*api.MaxWords - 1)}, {alone(32 * api.MaxWords), alone(32 * api.MaxWords)},
		{ones(api.MaxWords - 1), ones(1)}, {ones(3000), ones(api.MaxWords - 3000)}, {alone(64 * 3000), alone(64 * (api.MaxWords - 3000))}, {alone(64 * 3000), alone(64*(api.MaxWords-3000) - 1)},
		{alone(64*3000 + 63), alone(64*(api.MaxWords-3001) + 1)}, {alone(64*3000 + 63), alone(64 * (api.MaxWords - 3001))},
		{m.Row(half), m.Row(half)}, {m.Row(api.MaxWords - 100), m.Row(100)}, {append(m.Row(half), zeros(half)...), m.Row(half)},
	} {
		checkMul(t, p[0], p[1])
	}
	for _, x := range []api.Nat{alone(32*api.MaxWords - 1), append(ones(half), 1), m.Row(half)} {
		checkMul(t, x, x)
	}
}

// R2: numbers with too many words come before all other errors, also if all these words are 0.
func TestTooManyWords(t *testing.T) {
	for _, n := range []int{api.MaxWords + 1, 3 * api.MaxWords, 1 << 18} {
		for _, long := range []api.Nat{zeros(n), ones(n), append(api.Nat{1}, zeros(n)...)} {
			for _, size := range append(wrongSizes, 8, 16, 32) {
				got, e := ntt.Digits(long, size)
				fails(t, got, e, api.ErrSize, "Digits", long, size)
			}
			for _, x := range []api.Nat{nil, {0}, {5}, ones(api.MaxWords), long} {
				got, e := ntt.Mul(long, x)
				fails(t, got, e, api.ErrSize, "Mul", long, x)
				got, e = ntt.Mul(x, long)
				fails(t, got, e, api.ErrSize, "Mul", x, long)
			}
			got, e := ntt.Square(long)
			fails(t, got, e, api.ErrSize, "Square", long)
		}
	}
}
