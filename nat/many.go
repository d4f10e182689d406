package nat

import (
	"reckoner/api"
	"reckoner/internal/rows"
)

// maxItems is how many numbers a sum or a product of many may have.
const maxItems = 1000

// checkList returns the error of a list of numbers.
func checkList(l []api.Nat) api.Errno {
	if len(l) > maxItems {
		return api.ErrArg
	}
	return rows.CheckSizes(l...)
}

// joinAll joins z with one number after the other. None of them makes z less, so one that is too large on the way is so at the end.
func joinAll(join func(x, y api.Nat) (api.Nat, api.Errno), z api.Nat, l ...api.Nat) (api.Nat, api.Errno) {
	for _, x := range l {
		next, e := join(z, x)
		if e != api.OK {
			return nil, e
		}
		z = next
	}
	return z, api.OK
}

// Sum returns the sum of at most 1000 numbers.
func Sum(l []api.Nat) (api.Nat, api.Errno) {
	if e := checkList(l); e != api.OK {
		return nil, e
	}
	return joinAll(Add, nil, l...)
}

// Product returns the product of at most 1000 numbers.
func Product(l []api.Nat) (api.Nat, api.Errno) {
	if e := checkList(l); e != api.OK {
		return nil, e
	}
	// A 0 makes the product 0, however large that of the others is.
	for _, x := range l {
		if len(rows.Used(x)) == 0 {
			return nil, api.OK
		}
	}
	return joinAll(Mul, FromWord(1), l...)
}
