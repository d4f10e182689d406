package prime_test

import (
	"slices"
	"testing"

	"reckoner/api"
	"reckoner/prime"
)

// span is how far the ends of a list may be from one another.
const span = 100000

// checkNext checks Next; a want of 0 is none.
func checkNext(t *testing.T, n, want uint64) {
	t.Helper()
	wanted := api.OK
	if want == 0 {
		wanted = api.ErrNone
	}
	if p, e := prime.Next(n); e != wanted || p != want {
		t.Errorf("Next(%d): error %d, %d; want error %d, %d", n, e, p, wanted, want)
	}
}

// listed returns List, without an error.
func listed(t *testing.T, low, high uint64) []uint64 {
	t.Helper()
	l, e := prime.List(low, high)
	if e != api.OK {
		t.Errorf("List(%d, %d): error %d", low, high, e)
	}
	return l
}

// checkList checks List.
func checkList(t *testing.T, low, high uint64, want []uint64) {
	t.Helper()
	if l := listed(t, low, high); !slices.Equal(l, want) {
		t.Errorf("List(%d, %d): %d; want %d", low, high, l[:min(9, len(l))], want[:min(9, len(want))])
	}
}

// primesBelow returns the prime numbers less than n.
func primesBelow(n int) []uint64 {
	var l []uint64
	for p, is := range sieve(n) {
		if is {
			l = append(l, uint64(p))
		}
	}
	return l
}

// lastPrimes returns the greatest prime words.
func lastPrimes() []uint64 {
	var l []uint64
	for _, d := range []uint64{363, 353, 323, 279, 257, 189, 179, 95, 83, 59} {
		l = append(l, 1<<63+(1<<63-d))
	}
	return l
}

// P9.3: Next of all small numbers.
func TestNext(t *testing.T) {
	i := 0
	l := primesBelow(60000)
	for n := range l[len(l)-1] {
		if n == l[i] {
			i++
		}
		checkNext(t, n, l[i])
	}
}

// P9.3: Next of long words: at wide gaps, and up to the last prime number.
func TestNextOfLargeNumbers(t *testing.T) {
	for _, c := range [][2]uint64{
		{1<<32 - 5, 1<<32 + 15}, {1 << 32, 1<<32 + 15}, {1327, 1361}, {31397, 31469}, {492113, 492227}, {436273009, 436273291}, {1693182318746371, 1693182318747503}, {18361375334787046697, 18361375334787048247}, {18361375334787046698, 18361375334787048247}, {18361375334787048246, 18361375334787048247}, {1<<63 - 26, 1<<63 - 25}, {1<<63 - 25, 1<<63 + 29},
	} {
		checkNext(t, c[0], c[1])
	}
	l := lastPrimes()
	for i, p := range l {
		checkNext(t, p-1, p)
		if i > 0 {
			checkNext(t, l[i-1], p)
			checkNext(t, p-2, p)
		}
	}
	for _, n := range []uint64{1<<64 - 59, 1<<64 - 58, top - 1, top} {
		checkNext(t, n, 0)
	}
}

// P9.3: lists of small numbers, with ends that are prime and not.
func TestList(t *testing.T) {
	l := primesBelow(200100)
	for low := range uint64(60) {
		for high := low; high < 130; high++ {
			i, _ := slices.BinarySearch(l, low)
			j, _ := slices.BinarySearch(l, high+1)
			checkList(t, low, high, l[i:j])
		}
	}
	for _, low := range []uint64{0, 1, 2, 3, 4, 97, 50000, 99991, 100000, 100003} {
		i, _ := slices.BinarySearch(l, low)
		j, _ := slices.BinarySearch(l, low+span+1)
		checkList(t, low, low+span, l[i:j])
	}
}

// P9.3, W6: lists of long words: each number is in it and has a proof, or is not and has a divisor.
func TestListOfLargeNumbers(t *testing.T) {
	for _, low := range []uint64{1<<32 - 600, 1<<63 - 600, 1<<64 - 1200, 18361375334787046600} {
		high := low + min(1199, top-low)
		l := listed(t, low, high)
		for d := range high - low + 1 {
			n := low + d
			if len(l) > 0 && l[0] == n {
				l = l[1:]
				if p, e := prime.Prove(n); e != api.OK || p.N != n || !isProved(p) {
					t.Errorf("List: %d is not prime", n)
				}
			} else if d, e := prime.Split(n); e != api.OK || d <= 1 || d >= n || n%d > 0 {
				t.Errorf("List: without %d", n)
			}
		}
		if len(l) > 0 {
			t.Errorf("List(%d, %d): more, %d", low, high, l[:min(9, len(l))])
		}
	}
}

// P9.3: lists up to the greatest word, lists of no prime number, and of one.
func TestListAtEnds(t *testing.T) {
	last := lastPrimes()
	checkList(t, 1<<64-363, top, last)
	checkList(t, 1<<64-362, top, last[1:])
	checkList(t, 1<<64-362, 1<<64-59, last[1:])
	checkList(t, 1<<64-363, 1<<64-60, last[:9])
	checkList(t, 1<<64-59, 1<<64-59, last[9:])
	checkList(t, 1<<64-58, top, nil)
	checkList(t, top, top, nil)
	checkList(t, 0, 0, nil)
	checkList(t, 0, 1, nil)
	checkList(t, 2, 2, []uint64{2})
	checkList(t, 37, 41, []uint64{37, 41})
	checkList(t, 24, 28, nil)
	checkList(t, 18361375334787046698, 18361375334787048246, nil)
	checkList(t, 18361375334787046697, 18361375334787048247, []uint64{18361375334787046697, 18361375334787048247})
	long := listed(t, top-span, top)
	if len(long) < 2000 || !slices.Equal(long[len(long)-10:], last) || !slices.IsSorted(long) {
		t.Errorf("List to the end: %d prime numbers", len(long))
	}
	at := top - span - 1
	for _, p := range long {
		checkNext(t, at, p)
		at = p
	}
}

// P9.3: ends that are too far from one another, or not in order.
func TestErrorsOfList(t *testing.T) {
	for _, c := range [][2]uint64{{1, 0}, {2, 1}, {top, 0}, {top, top - 1}, {half, half - 1}, {0, span + 1}, {2, span + 3}, {5, top}, {0, top}, {top - span - 1, top}, {half, half + span + 1}} {
		if l, e := prime.List(c[0], c[1]); e != api.ErrArg || len(l) > 0 {
			t.Errorf("List(%d, %d): error %d, %d", c[0], c[1], e, len(l))
		}
	}
	listed(t, half, half+span)
}
