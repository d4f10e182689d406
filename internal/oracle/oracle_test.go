package oracle_test

import (
	"cmp"
	"math/bits"
	"slices"
	"testing"

	"reckoner/internal/oracle"
)

// Numbers of one word, by the machine's arithmetic.
func TestWordsOfOneWord(t *testing.T) {
	list := append(oracle.Edges(), 2, 255, 256, 257, 1<<32-1)
	for _, v := range list {
		for _, w := range list {
			n, m := oracle.Value(v), oracle.Value(w)
			low, carry := bits.Add64(v, w, 0)
			if got := n.Plus(m); got.Compare(oracle.Value(low, carry)) != 0 {
				t.Errorf("%x + %x = %x", v, w, got)
			}
			if got := n.Plus(m).Minus(m); got.Compare(n) != 0 {
				t.Errorf("%x + %x - %x = %x", v, w, w, got)
			}
			high, low := bits.Mul64(v, w)
			if got := n.Times(m); got.Compare(oracle.Value(low, high)) != 0 {
				t.Errorf("%x %x = %x", v, w, got)
			}
			if got := n.Compare(m); got != cmp.Compare(v, w) {
				t.Errorf("%x and %x: %d", v, w, got)
			}
		}
	}
}

// Words, bits and powers of longer numbers.
func TestLongerNumbers(t *testing.T) {
	n := oracle.Value(5, 0, oracle.Half, 0, 0)
	if got := n.Words(); !slices.Equal(got, []uint64{5, 0, oracle.Half}) {
		t.Errorf("Words: %x", got)
	}
	if got := oracle.Value(0, 0).Words(); len(got) != 0 {
		t.Errorf("Words of 0: %x", got)
	}
	for i := range 400 {
		if want := i == 0 || i == 2 || i == 191; n.Bit(i) != want {
			t.Errorf("Bit(%d) = %v", i, !want)
		}
	}
	if got := oracle.Power(191).Plus(oracle.Value(5)); got.Compare(n) != 0 {
		t.Errorf("2^191 + 5 = %x", got)
	}
	if got := oracle.Value(oracle.Half).Above(2).Plus(oracle.Value(5)); got.Compare(n) != 0 {
		t.Errorf("2^63 2^128 + 5 = %x", got)
	}
	if got := n.Minus(oracle.Value(6)); !slices.Equal(got.Words(), []uint64{oracle.Top, oracle.Top, oracle.Half - 1}) {
		t.Errorf("2^191 - 1 = %x", got)
	}
	if n.Compare(oracle.Value(6)) != 1 || oracle.Value(oracle.Top, oracle.Top).Compare(n) != -1 {
		t.Error("Compare does not see which number is longer")
	}
}
