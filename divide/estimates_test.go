package divide_test

import (
	"slices"
	"testing"

	"reckoner/api"
	"reckoner/divide"
	"reckoner/internal/oracle"
	"reckoner/nat"
)

// bitsOf returns the length of x in bits.
func bitsOf(x api.Nat) int {
	v, n := value(x...), 64*len(x)
	for n > 0 && !v.Bit(n-1) {
		n--
	}
	return n
}

// P5.1: divisors whose highest bit is 1, and the least shift that makes one so.
func TestNormal(t *testing.T) {
	list := append(numbers(), ones(api.MaxWords), alone(api.MaxShift-1), alone(api.MaxShift-64), append(api.Nat{6}, zeros(api.MaxWords-1)...))
	for s := range 130 {
		list = append(list, alone(s), append(less(alone(s)), 0))
	}
	for _, v := range list {
		bits := bitsOf(v)
		if got := divide.IsNormal(v); got != (bits > 0 && bits%64 == 0) {
			t.Errorf("IsNormal%s = %v", shown(v), got)
		}
		z, s, e := divide.Normal(v)
		if bits == 0 {
			fails(t, []api.Nat{z, nat.FromWord(uint64(s))}, e, api.ErrZero, "Normal", v)
			continue
		}
		want := 0
		for (bits+want)%64 != 0 {
			want++
		}
		check(t, z, e, value(v...).Times(oracle.Power(want)).Words(), "Normal", v)
		if s != want || !divide.IsNormal(z) {
			t.Errorf("Normal%s: shift %d, want %d", shown(v), s, want)
		}
	}
}

// P5.1: IsNormal has no Errno, and so takes numbers of any length.
func TestIsNormalOfLongNumbers(t *testing.T) {
	for _, n := range []int{api.MaxWords + 1, 3 * api.MaxWords} {
		long := zeros(n)
		for _, c := range []struct {
			last uint64
			want bool
		}{{0, false}, {1, false}, {half - 1, false}, {half, true}, {top, true}} {
			long[n-1] = c.last
			if got := divide.IsNormal(long); got != c.want {
				t.Errorf("IsNormal of %d words, the last %x: %v", n, c.last, got)
			}
			if got := divide.IsNormal(append(slices.Clone(long), 0, 0)); got != c.want {
				t.Errorf("IsNormal of %d words, the last %x, and zeros: %v", n, c.last, got)
			}
		}
	}
}

// word returns the word of x at a place, 0 where there is none.
func word(x api.Nat, at int) uint64 {
	if at < len(x) {
		return x[at]
	}
	return 0
}

// isEstimate tells whether w is the estimate for u and a canonical v, by its definition.
func isEstimate(u, v api.Nat, w uint64) bool {
	n := len(v)
	high, first := value(word(u, n-1), word(u, n)), value(v[n-1])
	if high.Compare(value(w).Times(first)) < 0 {
		return false
	}
	return w == top || high.Compare(value(w).Plus(value(1)).Times(first)) < 0
}

// checkEstimate checks the estimate for u and v, and that it is the word of the quotient or at most 2 more; or its error.
func checkEstimate(t *testing.T, u, v api.Nat) {
	t.Helper()
	got, e := divide.Estimate(u, v)
	divisor := nat.Trim(v)
	if n := len(divisor); n < 2 || divisor[n-1] < half || nat.Cmp(u, append(api.Nat{0}, divisor...)) >= 0 {
		fails(t, []api.Nat{nat.FromWord(got)}, e, api.ErrArg, "Estimate", u, v)
		return
	}
	if e != api.OK || !isEstimate(u, divisor, got) {
		t.Errorf("Estimate%s: error %d, %x", shown(u, v), e, got)
	}
	q, _, e := nat.DivMod(u, v)
	quotient, one := nat.Word(q)
	if e != api.OK || !one || got < quotient || got-quotient > 2 {
		t.Errorf("Estimate%s = %x, the word is%s", shown(u, v), got, shown(q))
	}
}

// P5.2, P5.6: estimates of pairs of numbers of all lengths, and of the greatest dividends of each divisor.
func TestEstimate(t *testing.T) {
	list := append(numbers(), longNumbers()...)
	for i, v := range list {
		for _, u := range numbers() {
			checkEstimate(t, u, v)
		}
		checkEstimate(t, list[(i*5+3)%len(list)], v)
		above := append(api.Nat{0}, v...)
		checkEstimate(t, above, v)
		checkEstimate(t, append(slices.Clone(above), 0, 0), append(slices.Clone(v), 0))
		if !isZero(v) {
			checkEstimate(t, less(above), v)
			checkEstimate(t, append(api.Nat{top}, less(v)...), v)
		}
	}
}

// P5.6: dividends made of a word and a divisor, so that estimates are as far from the word as they may be.
func TestEstimateOfProducts(t *testing.T) {
	seen := map[uint64]int{}
	for _, v := range append(numbers(), longNumbers()...) {
		v = nat.Trim(v)
		if len(v) < 2 || v[len(v)-1] < half {
			continue
		}
		for _, w := range append(oracle.Edges(), 2, 5, half/3, top-2) {
			u := times(v, api.Nat{w})
			for _, x := range []api.Nat{u, plus(u, less(v))} {
				checkEstimate(t, x, v)
				got, _ := divide.Estimate(x, v)
				seen[got-w]++
			}
		}
	}
	if len(seen) != 3 || seen[0] == 0 || seen[1] == 0 || seen[2] == 0 {
		t.Errorf("estimates less the words, and how often: %v", seen)
	}
}

// P5.2: the longest divisors and dividends.
func TestEstimateOfLongestNumbers(t *testing.T) {
	most := ones(api.MaxWords)
	for _, v := range []api.Nat{most, alone(api.MaxShift - 1), most[1:], alone(api.MaxShift - 65), alone(api.MaxShift - 2), ones(2), {0, half}, zeros(api.MaxWords)} {
		for _, u := range []api.Nat{nil, {5}, most, most[1:], alone(api.MaxShift - 1), alone(api.MaxShift - 65), zeros(api.MaxWords)} {
			checkEstimate(t, u, v)
		}
	}
}
