package nat

import (
	"reckoner/api"
	"reckoner/internal/rows"
	"reckoner/words"
)

// Add returns x + y.
func Add(x, y api.Nat) (api.Nat, api.Errno) {
	if e := rows.CheckSizes(x, y); e != api.OK {
		return nil, e
	}
	n := max(len(x), len(y))
	z, carry, _ := words.Add(row(x, n), row(y, n), 0)
	if carry > 0 {
		z = append(z, carry)
	}
	return result(z)
}

// Sub returns x - y, or ErrBelow if that is less than 0.
func Sub(x, y api.Nat) (api.Nat, api.Errno) {
	if e := rows.CheckSizes(x, y); e != api.OK {
		return nil, e
	}
	n := max(len(x), len(y))
	z, borrow, _ := words.Sub(row(x, n), row(y, n), 0)
	if borrow > 0 {
		return nil, api.ErrBelow
	}
	return rows.Used(z), api.OK
}
