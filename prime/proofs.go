package prime

import "reckoner/api"

// Proof is a proof that N is prime: Base to the power of N - 1 leaves 1 by N, but no power of it with the exponent (N - 1) / q does, for the prime factors q of N - 1, of which Parts are the proofs. Of 2, 3, 5 and 7, N alone is a proof.
type Proof struct {
	N, Base uint64
	Parts   []Proof
}

// needsNoProof tells whether n is a prime number whose proof is just itself.
func needsNoProof(n uint64) bool {
	return n == 2 || n == 3 || n == 5 || n == 7
}

// Prove returns a proof that n is prime.
func Prove(n uint64) (Proof, api.Errno) {
	if !IsPrime(n) {
		return Proof{}, api.ErrNone
	}
	var prove func(p uint64) Proof
	prove = func(p uint64) Proof {
		if needsNoProof(p) {
			return Proof{N: p}
		}
		parts := rising(factors(p - 1))
		z := Proof{N: p, Base: modulus(p).generator(parts)}
		for _, q := range parts {
			z.Parts = append(z.Parts, prove(q))
		}
		return z
	}
	return prove(n), api.OK
}

// isRight tells whether p is a right proof.
func isRight(p Proof) bool {
	if p.Base == 0 {
		return needsNoProof(p.N) && len(p.Parts) == 0
	}
	if p.N%2 == 0 || p.Base < 2 || p.Base >= p.N || !hasRightPowers(p) {
		return false
	}
	// But for 2, the numbers of the parts divide (N - 1) / 2, and have no common divisors. So the proofs that are looked at are few, and at most 63 deep in one another, whatever else is in p: there is no need to count them.
	for _, part := range p.Parts {
		if !isRight(part) {
			return false
		}
	}
	return true
}

// hasRightPowers tells whether the numbers of p's parts rise and are what N - 1 is made of, and whether the powers of Base, which is less than N, are what they are to be.
func hasRightPowers(p Proof) bool {
	n := modulus(p.N)
	last := p.N - 1
	rest, before := last, uint64(1)
	for _, part := range p.Parts {
		q := part.N
		if q <= before || rest%q > 0 || n.power(p.Base, last/q) == 1 {
			return false
		}
		for rest%q == 0 {
			rest /= q
		}
		before = q
	}
	return rest == 1 && n.power(p.Base, last) == 1
}

// CheckProof returns ErrProof if p is not a right proof.
func CheckProof(p Proof) api.Errno {
	if !isRight(p) {
		return api.ErrProof
	}
	return api.OK
}
