package divide

import (
	"slices"

	"reckoner/api"
	"reckoner/fast"
	"reckoner/internal/rows"
	"reckoner/nat"
)

// joined returns high B^n + low, for a low of at most n words.
func joined(high, low api.Nat, n int) api.Nat {
	z := make(api.Nat, n+len(high))
	copy(z, low)
	copy(z[n:], high)
	return rows.Used(z)
}

// ofHighest returns quotient and remainder of u by v, the k highest words of a divisor, if the quotient is less than B^k; otherwise B^k - 1 and what that leaves. v is not greater than u, and u less than (v + 1) B^k.
func ofHighest(u, v api.Nat, divide way) quotient {
	k := len(v)
	if nat.Cmp(u[k:], v) < 0 {
		return divide(u, v)
	}
	// Above its k lowest words u is v, so that u - v B^k + v is left.
	rest := make(api.Nat, k+1)
	copy(rest, u[:k:k])
	rows.Add(rest, v, 1)
	return quotient{slices.Repeat(api.Nat{^uint64(0)}, k), rows.Used(rest)}
}

// part returns quotient and remainder of a canonical u, less than v B^k, by a normal v of at least k words. The k highest words of v tell the quotient, or at most 2 more; divide is the way to divide by them.
func part(u, v api.Nat, k int, divide way) quotient {
	if nat.Cmp(u, v) < 0 {
		return quotient{r: u}
	}
	n := len(v)
	cut := n - k
	top := ofHighest(u[cut:], v[cut:], divide)
	product, _ := fast.Mul(top.q, v[:cut:cut]) // of n words
	rest := make(api.Nat, n+1)
	copy(rest, u[:cut:cut])
	copy(rest[cut:], top.r)
	for below := rows.Take(rest, product, 1); below > 0; {
		rows.Take(top.q, one(), 1)
		below -= rows.Add(rest, v, 1)
	}
	return quotient{rows.Used(top.q), rows.Used(rest)}
}

// inPieces takes a quotient in pieces of as many words as v has, the first one of at most so many. A quotient with fewer words than v is one piece; then divide takes only so many of the highest words of v.
func inPieces(u, v api.Nat, divide way) quotient {
	n := len(v)
	at := len(u) - n
	if nat.Cmp(u[at:], v) >= 0 {
		at++
	}
	size := min(n, at)
	q, rest := make(api.Nat, at), u[at:]
	for at > 0 {
		k := (at-1)%size + 1
		at -= k
		piece := part(joined(rest, u[at:at+k:at+k], k), v, size, divide)
		copy(q[at:], piece.q)
		rest = piece.r
	}
	return quotient{rows.Used(q), rest}
}

// inHalves is the way of Burnikel and Ziegler: two halves of a quotient come by half of the divisor, which is taken apart again while it has at least so many words.
func inHalves(least int) way {
	var whole way
	whole = func(u, v api.Nat) quotient {
		n := len(v)
		if n < least {
			return school(u, v)
		}
		half := n / 2
		high := part(u[half:], v, n-half, whole)
		low := part(joined(high.r, u[:half:half], half), v, half, whole)
		return quotient{joined(high.q, low.q, half), low.r}
	}
	return func(u, v api.Nat) quotient {
		if len(v) < least {
			return school(u, v)
		}
		return inPieces(u, v, whole)
	}
}
