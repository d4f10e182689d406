package words

import (
	"iter"

	"reckoner/api"
)

// least returns the least of all lengths, at most api.MaxWords.
func least(lengths ...int) int {
	n := api.MaxWords
	for _, l := range lengths {
		n = min(n, l)
	}
	return n
}

// checkLengths returns the error that rows of these lengths have together: any that is too long comes before lengths that differ.
func checkLengths(lengths ...int) api.Errno {
	for _, n := range lengths {
		if n > api.MaxWords {
			return api.ErrSize
		}
	}
	shortest := least(lengths...)
	for _, n := range lengths {
		if n > shortest {
			return api.ErrArg
		}
	}
	return api.OK
}

// newRow makes a row of n words, the least significant first, so that word may keep what it carries from one to the next.
func newRow(n int, word func(i int) uint64) []uint64 {
	z := make([]uint64, 0, n)
	for i := range n {
		w := word(i)
		z = append(z, w)
	}
	return z
}

// copied returns a row of its own with the words of x, to be worked on in place.
func copied(x []uint64) []uint64 {
	z := make([]uint64, len(x))
	copy(z, x)
	return z
}

// fromBack gives the words of a row with their places, the most significant first.
func fromBack(x []uint64) iter.Seq2[int, uint64] {
	return func(yield func(int, uint64) bool) {
		for i := len(x) - 1; i >= 0; i-- {
			if !yield(i, x[i]) {
				return
			}
		}
	}
}
