package fast

import (
	"iter"

	"reckoner/api"
	"reckoner/internal/rows"
	"reckoner/nat"
)

const (
	maxPiece  = 1000 // words of a piece
	maxPieces = 5000 // pieces of a number that is joined
)

// outOfPiece tells whether pieces may not have n words.
func outOfPiece(n int) bool {
	return n < 1 || n > maxPiece
}

// pieces gives the pieces of n words of a canonical x, in its memory, each with the place of its first word.
func pieces(x api.Nat, n int) iter.Seq2[int, api.Nat] {
	return func(yield func(int, api.Nat) bool) {
		for at := 0; at < len(x); at += n {
			end := min(at+n, len(x))
			if !yield(at, rows.Used(x[at:end:end])) {
				return
			}
		}
	}
}

// halves returns the n lowest words of a canonical x, and those above them.
func halves(x api.Nat, n int) (low, high api.Nat) {
	if len(x) <= n {
		return x, nil
	}
	return rows.Used(x[:n:n]), x[n:len(x):len(x)]
}

// Split returns the pieces of x of n words.
func Split(x api.Nat, n int) ([]api.Nat, api.Errno) {
	if e := rows.CheckSizes(x); e != api.OK {
		return nil, e
	}
	if outOfPiece(n) {
		return nil, api.ErrArg
	}
	var l []api.Nat
	for _, piece := range pieces(rows.Used(x), n) {
		l = append(l, nat.Trim(piece))
	}
	return l, api.OK
}

// Join returns the sum of l[i] B^(n i).
func Join(l []api.Nat, n int) (api.Nat, api.Errno) {
	if e := rows.CheckSizes(l...); e != api.OK {
		return nil, e
	}
	if outOfPiece(n) || len(l) > maxPieces {
		return nil, api.ErrArg
	}
	var terms []term
	for i, x := range l {
		x = rows.Used(x)
		switch {
		case len(x) == 0: // at any place
		case n*i+len(x) > api.MaxWords: // nothing takes away what is too large
			return nil, api.ErrSize
		default:
			terms = append(terms, placed(x, n*i))
		}
	}
	return result(sum(terms...).words)
}
