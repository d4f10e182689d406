package nat

import (
	"reckoner/api"
	"reckoner/internal/rows"
	"reckoner/words"
)

// checkShift returns the error of a number and a number of bits by which it is shifted or cut.
func checkShift(x api.Nat, s int) api.Errno {
	if e := rows.CheckSizes(x); e != api.OK {
		return e
	}
	if s < 0 || s > api.MaxShift {
		return api.ErrArg
	}
	return api.OK
}

// Left returns x 2^s.
func Left(x api.Nat, s int) (api.Nat, api.Errno) {
	if e := checkShift(x, s); e != api.OK {
		return nil, e
	}
	shifted, carry, _ := words.Left(x, s%64)
	z := append(make(api.Nat, s/64), shifted...)
	return result(append(z, carry))
}

// Right returns floor(x / 2^s).
func Right(x api.Nat, s int) (api.Nat, api.Errno) {
	if e := checkShift(x, s); e != api.OK {
		return nil, e
	}
	kept := x[min(s/64, len(x)):]
	z, _, _ := words.Right(kept, s%64)
	return rows.Used(z), api.OK
}

// Low returns what x leaves by 2^s.
func Low(x api.Nat, s int) (api.Nat, api.Errno) {
	if e := checkShift(x, s); e != api.OK {
		return nil, e
	}
	cut := s / 64 // the word of which a part is left
	if cut >= len(x) {
		return Trim(x), api.OK
	}
	z := append(api.Nat(nil), x[:cut+1]...)
	z[cut] &= 1<<(s%64) - 1
	return rows.Used(z), api.OK
}

// Bit tells whether the bit of 2^i is 1.
func Bit(x api.Nat, i int) bool {
	return i >= 0 && i/64 < len(x) && x[i/64]>>(i%64)&1 == 1
}

// SetBit returns x with the bit of 2^i as it is told.
func SetBit(x api.Nat, i int, bit bool) (api.Nat, api.Errno) {
	if e := rows.CheckSizes(x); e != api.OK {
		return nil, e
	}
	if i < 0 || i >= api.MaxShift {
		return nil, api.ErrArg
	}
	z := append(api.Nat(nil), row(x, i/64+1)...)
	mask := uint64(1) << (i % 64)
	z[i/64] &^= mask
	if bit {
		z[i/64] |= mask
	}
	return rows.Used(z), api.OK
}

// joint returns the function that joins the bits of two words as its sign says.
func joint(sign byte) func(v, w uint64) uint64 {
	return map[byte]func(v, w uint64) uint64{
		'&': func(v, w uint64) uint64 { return v & w },
		'|': func(v, w uint64) uint64 { return v | w },
		'^': func(v, w uint64) uint64 { return v ^ w },
	}[sign]
}

// joined returns the number whose bits are those of x and y, joined as the sign says.
func joined(x api.Nat, sign byte, y api.Nat) (api.Nat, api.Errno) {
	if e := rows.CheckSizes(x, y); e != api.OK {
		return nil, e
	}
	n := max(len(x), len(y))
	x, y = row(x, n), row(y, n)
	join := joint(sign)
	z := make(api.Nat, n)
	for i := range z {
		z[i] = join(x[i], y[i])
	}
	return rows.Used(z), api.OK
}

// And returns the number with the bits 1 that both x and y have.
func And(x, y api.Nat) (api.Nat, api.Errno) {
	return joined(x, '&', y)
}

// Or returns the number with the bits 1 that x or y has.
func Or(x, y api.Nat) (api.Nat, api.Errno) {
	return joined(x, '|', y)
}

// Xor returns the number with the bits 1 that just one of x and y has.
func Xor(x, y api.Nat) (api.Nat, api.Errno) {
	return joined(x, '^', y)
}
