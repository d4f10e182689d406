package oracle_test

import (
	"slices"
	"testing"

	"reckoner/internal/oracle"
)

// small returns the value of an integer of one word.
func small(n oracle.Signed) int {
	neg, words := n.Canonical()
	switch {
	case len(words) == 0 && neg || len(words) > 1:
		return 1 << 40
	case len(words) == 0:
		return 0
	case neg:
		return -int(words[0])
	}
	return int(words[0])
}

// Integers, by the machine's arithmetic.
func TestSigned(t *testing.T) {
	for i := -300; i <= 300; i += 7 {
		for j := -300; j <= 300; j += 6 {
			n, m := oracle.Small(i), oracle.Small(j)
			if got := small(n.Plus(m)); got != i+j {
				t.Errorf("%d + %d = %d", i, j, got)
			}
			if got := small(n.Times(m)); got != i*j {
				t.Errorf("%d times %d = %d", i, j, got)
			}
		}
	}
	if got := small(oracle.Integer(true, 5, 0, 0).Plus(oracle.Integer(false, 5))); got != 0 {
		t.Errorf("-5 + 5 = %d", got)
	}
	if got := small(oracle.Integer(true, 0, 0)); got != 0 {
		t.Errorf("-0 = %d", got)
	}
}

// The numbers that tests are made of.
func TestNumbers(t *testing.T) {
	if x := oracle.Zeros(3); !slices.Equal(x, []uint64{0, 0, 0}) {
		t.Errorf("Zeros: %x", x)
	}
	if x := oracle.Ones(2); !slices.Equal(x, []uint64{oracle.Top, oracle.Top}) {
		t.Errorf("Ones: %x", x)
	}
	if x := oracle.Alone(127); !slices.Equal(x, []uint64{0, oracle.Half}) {
		t.Errorf("Alone: %x", x)
	}
}
