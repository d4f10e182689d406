package modular_test

import (
	"testing"

	"reckoner/api"
	"reckoner/internal/oracle"
	"reckoner/modular"
	"reckoner/nat"
)

// checkBarrett checks what x leaves by n.
func checkBarrett(t *testing.T, x, n api.Nat) {
	t.Helper()
	z, e := modular.Barrett(x, n)
	if len(nat.Trim(x)) > 2*len(nat.Trim(n)) {
		fails(t, []api.Nat{z}, e, api.ErrArg, "Barrett", x, n)
		return
	}
	check(t, z, e, left(x, n), "Barrett", x, n)
}

// P8.4: numbers of all lengths, and one more word than there may be.
func TestBarrett(t *testing.T) {
	m := oracle.Mixer(37)
	for _, n := range moduli(&m, 1, 2, 3, 5, 16, 33, 64) {
		w := len(n)
		list := []api.Nat{nil, {1}, n, less(n), plus(n, api.Nat{1}), r(n), less(r(n)), times(n, r(n)), less(times(n, r(n))), times(n, n), less(times(n, n)), ones(2 * w), ones(2*w + 1), alone(128 * w), alone(128*w - 1), ones(5 * w)}
		for i := range 2*w + 2 {
			list = append(list, m.Row(i))
		}
		for range 20 {
			q := left(m.Row(w), r(n))
			list = append(list, m.Row(2*w), times(q, n), plus(times(q, n), less(n)))
			if nat.Len(q) > 0 {
				list = append(list, less(times(q, n)))
			}
		}
		for _, x := range list {
			checkBarrett(t, x, n)
		}
	}
}

// P8.4: numbers for which the guess of the quotient is too little, by 1 and by 2, and moduli whose inverses are exact or nearly.
func TestBarrettNearQuotients(t *testing.T) {
	m := oracle.Mixer(41)
	for _, w := range []int{1, 2, 3, 6, 64} {
		for _, first := range []api.Nat{{1}, {2}, {3}, {half}, {top}, m.Row(1)} {
			n := append(zeros(w-1), first...)
			for _, n := range []api.Nat{n, plus(n, api.Nat{1}), plus(n, ones(w-1))} {
				q, _, _ := nat.DivMod(ones(2*w), n)
				for i := range uint64(6) {
					most := times(minus(q, api.Nat{min(i, q[0])}), n)
					for _, x := range []api.Nat{most, less(most), plus(most, less(n)), append(zeros(w), m.Row(w)...), append(ones(w), m.Row(w)...)} {
						checkBarrett(t, x, n)
					}
				}
			}
		}
	}
}

// P8.4: all numbers by small moduli, and those that are nearly too long.
func TestBarrettOfSmallModuli(t *testing.T) {
	for n := uint64(1); n < 60; n++ {
		for x := range uint64(200) {
			checkBarrett(t, nat.FromWord(x), api.Nat{n})
			checkBarrett(t, api.Nat{top - x, top}, api.Nat{n})
			checkBarrett(t, api.Nat{x, half, 1}, api.Nat{n})
			checkBarrett(t, api.Nat{x, n, 0}, api.Nat{n, 0})
		}
	}
}

// P8.4, R1, R2: moduli that are 0 or too long, and words that are 0.
func TestErrorsOfBarrett(t *testing.T) {
	for _, c := range []struct {
		x, n api.Nat
		want api.Errno
	}{
		{api.Nat{1, 2, 3}, api.Nat{7}, api.ErrArg}, {api.Nat{0, 0, 1}, api.Nat{7, 0}, api.ErrArg}, {ones(129), ones(64), api.ErrArg}, {ones(api.MaxWords), ones(64), api.ErrArg},
		{nil, ones(65), api.ErrArg}, {ones(130), ones(65), api.ErrArg}, {nil, nil, api.ErrZero}, {ones(5), zeros(70), api.ErrZero},
		{ones(api.MaxWords + 1), nil, api.ErrSize}, {zeros(api.MaxWords + 1), api.Nat{7}, api.ErrSize}, {nil, zeros(api.MaxWords + 1), api.ErrSize},
	} {
		z, e := modular.Barrett(c.x, c.n)
		fails(t, []api.Nat{z}, e, c.want, "Barrett", c.x, c.n)
	}
	z, e := modular.Barrett(padded(ones(128), 7), padded(ones(64), 1))
	check(t, z, e, nil, "Barrett with zeros")
}
