package prime_test

import (
	"math"
	"testing"

	"reckoner/api"
	"reckoner/internal/oracle"
	"reckoner/nat"
	"reckoner/prime"
)

const million = 1000000

// mod returns what i leaves by n, from 0 on.
func mod(i, n int) int {
	return (i%n + n) % n
}

// checkLucas checks Lucas.
func checkLucas(t *testing.T, p, q int, k, n, u, v api.Nat) {
	t.Helper()
	got, got2, e := prime.Lucas(p, q, k, n)
	if e != api.OK || nat.Cmp(got, u) != 0 || nat.Cmp(got2, v) != 0 {
		t.Errorf("Lucas(%d, %d)%s: error %d,%s; want%s", p, q, shown(k, n), e, shown(got, got2), shown(u, v))
	}
	check(t, got, e, nat.Trim(u), "U of Lucas", k, n)
	check(t, got2, e, nat.Trim(v), "V of Lucas", k, n)
}

// P9.4: small numbers, by the definition: P and Q of both signs, and odd and even moduli, also 1.
func TestLucas(t *testing.T) {
	for n := 1; n < 24; n++ {
		for p := -7; p <= 7; p++ {
			for q := -7; q <= 7; q++ {
				u, u2, v, v2 := 0, 1, 2, p // U(k), U(k + 1), V(k), V(k + 1)
				for k := range 20 {
					checkLucas(t, p, q, nat.FromWord(uint64(k)), api.Nat{uint64(n)}, nat.FromWord(uint64(mod(u, n))), nat.FromWord(uint64(mod(v, n))))
					u, u2 = mod(u2, n), mod(p*u2-q*u, n)
					v, v2 = mod(v2, n), mod(p*v2-q*v, n)
				}
			}
		}
	}
}

// P9.4: the numbers of Fibonacci and Lucas, and powers: U(k) = 2^k - 1 and V(k) = 2^k + 1 for P = 3, Q = 2; U(k) = k for P = 2, Q = 1.
func TestKnownLucasNumbers(t *testing.T) {
	long := ones(32)
	checkLucas(t, 1, -1, api.Nat{10}, api.Nat{1000}, api.Nat{55}, api.Nat{123})
	checkLucas(t, 1, -1, api.Nat{90}, long, api.Nat{2880067194370816120}, api.Nat{6440026026380244498})
	for _, s := range []int{1, 2, 63, 64, 65, 1000, 2047} {
		k := nat.FromWord(uint64(s))
		checkLucas(t, 3, 2, k, long, less(alone(s)), plus(alone(s), api.Nat{1}))
		checkLucas(t, 3, 2, k, less(long), less(alone(s)), plus(alone(s), api.Nat{1}))
		checkLucas(t, 2, 1, alone(s), long, alone(s), api.Nat{2})
		checkLucas(t, 2, 1, alone(s), alone(s), nil, left(api.Nat{2}, alone(s)))
		checkLucas(t, 0, 0, k, long, left(api.Nat{uint64(1 / s)}, long), nil)
		checkLucas(t, 5, 0, api.Nat{3}, long, api.Nat{25}, api.Nat{125})
	}
	checkLucas(t, 2, 1, long, less(long), api.Nat{1}, api.Nat{2})
	checkLucas(t, 2, 1, less(long), long, less(long), api.Nat{2})
	for _, n := range []api.Nat{{1}, {2}, {3}, long, less(long)} {
		checkLucas(t, 7, 9, nil, n, nil, left(api.Nat{2}, n))
		checkLucas(t, 7, 9, zeros(40), padded(n, 9), nil, left(api.Nat{2}, n))
		checkLucas(t, 7, 9, api.Nat{1}, n, left(api.Nat{1}, n), left(api.Nat{7}, n))
	}
}

// matrix is a square of residues, row by row.
type matrix [4]api.Nat

// by returns m l modulo n.
func (m matrix) by(l matrix, n api.Nat) matrix {
	cell := func(i, j int) api.Nat {
		return left(plus(times(m[2*i], l[j]), times(m[2*i+1], l[2+j])), n)
	}
	return matrix{cell(0, 0), cell(0, 1), cell(1, 0), cell(1, 1)}
}

// residue returns what i leaves by n.
func residue(i int, n api.Nat) api.Nat {
	r := left(nat.FromWord(uint64(max(i, -i))), n)
	if i < 0 {
		r, _ = nat.Sub(n, r)
	}
	return left(r, n)
}

// byMatrix returns U(k) and V(k) modulo n. With P, -Q, 1, 0 in a matrix, its power with the exponent k has U(k + 1), -Q U(k), U(k), -Q U(k - 1).
func byMatrix(p, q int, k, n api.Nat) (u, v api.Nat) {
	z := matrix{residue(1, n), nil, nil, residue(1, n)}
	m := matrix{residue(p, n), residue(-q, n), residue(1, n), nil}
	for i := range nat.Len(k) {
		if nat.Bit(k, i) {
			z = z.by(m, n)
		}
		m = m.by(m, n)
	}
	return z[2], left(plus(z[0], z[3]), n)
}

// P9.4: long numbers, odd and even, with P and Q up to their ends.
func TestLucasOfLongNumbers(t *testing.T) {
	m := oracle.Mixer(13)
	list := []int{1, -1, 2, 0, 17, -400009, million, -million, million - 1, 1 - million}
	for i, words := range []int{1, 1, 2, 2, 2, 3, 4, 5, 8, 9, 16, 31} {
		for j, n := range []api.Nat{m.Row(words), ones(words), alone(64*words - 1), less(ones(words)), append(api.Nat{1}, zeros(words)[1:]...), {7}, {million}} {
			p, q := list[(i+j)%len(list)], list[(i*j+3)%len(list)]
			k := api.Nat(m.Row(1 + (i+j)%5))
			if len(n) < 2 && n[0] == 0 {
				continue
			}
			u, v := byMatrix(p, q, k, n)
			checkLucas(t, p, q, k, n, u, v)
			checkLucas(t, p, q, padded(k, 5), padded(n, 70), u, v)
		}
	}
	for _, n := range []api.Nat{m.Row(32), less(ones(32)), ones(32)} {
		k := api.Nat(m.Row(32))
		u, v := byMatrix(-million, 999983, k, n)
		checkLucas(t, -million, 999983, k, n, u, v)
	}
}

// P9.4: V(k) V(k) - (P P - 4 Q) U(k) U(k) is 4 Q^k.
func TestNormOfLucas(t *testing.T) {
	m := oracle.Mixer(17)
	for i := range 60 {
		n := api.Nat(m.Row(1 + i%7))
		k := api.Nat(m.Row(1 + i%3))
		p, q := int(m.Next()%2000)-1000, int(m.Next()%2000)-1000
		u, v, e := prime.Lucas(p, q, k, n)
		norm := plus(times(v, v), times(residue(4*q-p*p, n), times(u, u)))
		if want := times(api.Nat{4}, longPower(residue(q, n), k, n)); e != api.OK || nat.Cmp(left(norm, n), left(want, n)) != 0 {
			t.Errorf("Lucas(%d, %d)%s: error %d,%s", p, q, shown(k, n), e, shown(u, v))
		}
	}
}

// P9.4, R1, R2: P and Q that are out of their range, and numbers that are 0 or too long.
func TestErrorsOfLucas(t *testing.T) {
	tooLong := ones(api.MaxWords + 1)
	for _, c := range []struct {
		p, q int
		k, n api.Nat
		want api.Errno
	}{
		{million + 1, 1, nil, api.Nat{7}, api.ErrArg}, {-million - 1, 1, nil, api.Nat{7}, api.ErrArg}, {1, million + 1, nil, api.Nat{7}, api.ErrArg}, {1, -million - 1, nil, api.Nat{7}, api.ErrArg},
		{math.MaxInt, 1, nil, api.Nat{7}, api.ErrArg}, {math.MinInt, 1, nil, api.Nat{7}, api.ErrArg}, {1, math.MaxInt, nil, api.Nat{7}, api.ErrArg}, {1, math.MinInt, nil, api.Nat{7}, api.ErrArg},
		{1, 1, nil, nil, api.ErrArg}, {1, 1, api.Nat{5}, zeros(33), api.ErrArg}, {1, 1, nil, ones(33), api.ErrArg}, {1, 1, nil, alone(64 * 32), api.ErrArg}, {1, 1, ones(33), api.Nat{7}, api.ErrArg}, {1, 1, alone(64 * 32), api.Nat{1}, api.ErrArg}, {1, 1, ones(api.MaxWords), ones(api.MaxWords), api.ErrArg},
		{1, 1, tooLong, api.Nat{7}, api.ErrSize}, {1, 1, nil, tooLong, api.ErrSize}, {1, 1, nil, zeros(api.MaxWords + 1), api.ErrSize}, {1, 1, zeros(api.MaxWords + 1), nil, api.ErrSize}, {million + 1, million + 1, zeros(api.MaxWords + 1), nil, api.ErrSize},
	} {
		u, v, e := prime.Lucas(c.p, c.q, c.k, c.n)
		fails(t, []api.Nat{u, v}, e, c.want, "Lucas", c.k, c.n)
	}
	for _, p := range []int{million, -million} {
		u, v := byMatrix(p, -p, ones(32), ones(32))
		checkLucas(t, p, -p, padded(ones(32), 4000), padded(ones(32), 1), u, v)
	}
}
