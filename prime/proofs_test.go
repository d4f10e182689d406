package prime_test

import (
	"reflect"
	"slices"
	"testing"

	"reckoner/api"
	"reckoner/prime"
)

// leaf is the proof of a prime number that needs none.
func leaf(n uint64) prime.Proof {
	return prime.Proof{N: n}
}

// proved returns a proof of p.
func proved(t *testing.T, p uint64) prime.Proof {
	t.Helper()
	z, e := prime.Prove(p)
	if e != api.OK {
		t.Fatalf("Prove(%d): error %d", p, e)
	}
	return z
}

// copied returns a copy of a proof that shares no memory with it.
func copied(p prime.Proof) prime.Proof {
	p.Parts = slices.Clone(p.Parts)
	for i, part := range p.Parts {
		p.Parts[i] = copied(part)
	}
	return p
}

// checkProof checks CheckProof of a proof that is right or not, and that it changes nothing.
func checkProof(t *testing.T, p prime.Proof, right bool) {
	t.Helper()
	before := copied(p)
	want := api.ErrProof
	if right {
		want = api.OK
	}
	if e := prime.CheckProof(p); e != want {
		t.Errorf("CheckProof(%v): error %d, want %d", p, e, want)
	}
	if !reflect.DeepEqual(copied(p), before) {
		t.Errorf("CheckProof changes %v", before)
	}
}

// P9.1: all small numbers: a proof, or ErrNone and none.
func TestProve(t *testing.T) {
	for n, is := range sieve(20000) {
		p, e := prime.Prove(uint64(n))
		if !is {
			if e != api.ErrNone || !reflect.DeepEqual(p, prime.Proof{}) {
				t.Errorf("Prove(%d): error %d, %v", n, e, p)
			}
			continue
		}
		if e != api.OK || p.N != uint64(n) || !isProved(p) {
			t.Errorf("Prove(%d): error %d, %v", n, e, p)
		}
		checkProof(t, p, true)
	}
	for _, n := range append(pseudoprimes(), top, top-1, half, 1<<32, 4294967291*4294967291, 4294967291*4294967279) {
		if p, e := prime.Prove(n); e != api.ErrNone || !reflect.DeepEqual(p, prime.Proof{}) {
			t.Errorf("Prove(%d): error %d, %v", n, e, p)
		}
	}
}

// P9.1: the proofs of long words.
func TestProveLargePrimes(t *testing.T) {
	for _, n := range largePrimes() {
		p := proved(t, n)
		if p.N != n || !isProved(p) {
			t.Errorf("Prove(%d): %v", n, p)
		}
		checkProof(t, p, true)
	}
}

// P9.1, P9.6: small proofs, with each base and each list of parts: which of them are right.
func TestCheckSmallProofs(t *testing.T) {
	parts := []prime.Proof{leaf(2), leaf(3), leaf(5), {N: 3, Base: 2, Parts: []prime.Proof{leaf(2)}}, {N: 5, Base: 3, Parts: []prime.Proof{leaf(2)}}, leaf(4), leaf(1), {}, leaf(6), {N: 11, Base: 2, Parts: []prime.Proof{leaf(2), leaf(5)}}}
	lists := [][]prime.Proof{nil}
	for i, first := range parts {
		lists = append(lists, []prime.Proof{first})
		for j, second := range parts {
			lists = append(lists, []prime.Proof{first, second})
			if i < 4 && j < 5 {
				lists = append(lists, []prime.Proof{first, second, leaf(5)})
			}
		}
	}
	is := sieve(64)
	count := 0
	for n := range uint64(64) {
		for base := range n + 2 {
			for _, l := range lists {
				p := prime.Proof{N: n, Base: base, Parts: l}
				right := isProved(p)
				checkProof(t, p, right)
				if right {
					count++
				}
				if right && !is[n] {
					t.Errorf("proof of %d: %v", n, p)
				}
			}
		}
	}
	if count < 100 {
		t.Errorf("%d proofs are right", count)
	}
}

// changes returns proofs that differ from p in one place, also in one of its parts.
func changes(p prime.Proof) []prime.Proof {
	var list []prime.Proof
	add := func(change func(p *prime.Proof)) {
		c := copied(p)
		change(&c)
		list = append(list, c)
	}
	for _, d := range []uint64{1, 2, top, 1 << 32, half} {
		add(func(c *prime.Proof) { c.N += d })
		add(func(c *prime.Proof) { c.Base += d })
	}
	for _, w := range []uint64{0, 1, 2, 3, p.N - 1, p.N, p.N + 1, top} {
		add(func(c *prime.Proof) { c.N = w })
		add(func(c *prime.Proof) { c.Base = w })
	}
	add(func(c *prime.Proof) { c.Base, c.Parts = 0, nil })
	for _, part := range []prime.Proof{leaf(1), leaf(2), leaf(3), leaf(7), {}, {N: p.N, Base: p.Base, Parts: p.Parts}} {
		add(func(c *prime.Proof) { c.Parts = append(c.Parts, part) })
		add(func(c *prime.Proof) { c.Parts = append([]prime.Proof{part}, c.Parts...) })
	}
	for i, part := range p.Parts {
		add(func(c *prime.Proof) { c.Parts = slices.Delete(c.Parts, i, i+1) })
		add(func(c *prime.Proof) { c.Parts = slices.Insert(c.Parts, i, copied(part)) })
		add(func(c *prime.Proof) { c.Parts[i], c.Parts[0] = c.Parts[0], c.Parts[i] })
		add(func(c *prime.Proof) { c.Parts[i] = leaf(part.N) })
		for _, changed := range changes(part) {
			add(func(c *prime.Proof) { c.Parts[i] = changed })
		}
	}
	return list
}

// P9.1: proofs that are not right any more, in any place, and those that still are.
func TestCheckChangedProofs(t *testing.T) {
	for _, n := range []uint64{2, 3, 5, 7, 11, 13, 17, 31, 211, 257, 30011, 65537, 4294967291, 1<<61 - 1, 1<<64 - 1<<32 + 1, 1<<64 - 59} {
		for _, p := range changes(proved(t, n)) {
			checkProof(t, p, isProved(p))
		}
	}
}

// P9.1: all bases of a proof.
func TestCheckBases(t *testing.T) {
	for _, n := range []uint64{3, 5, 7, 11, 13, 97, 257, 1009} {
		p := prime.Proof{N: n}
		for _, q := range slices.Compact(primeFactors(n - 1)) {
			p.Parts = append(p.Parts, proved(t, q))
		}
		right := 0
		for p.Base = range 2 * n {
			checkProof(t, p, isProved(p))
			if isProved(p) {
				right++
			}
		}
		// As many as there are numbers below n - 1 without a common divisor with it.
		want := 0
		for k := uint64(1); k < n; k++ {
			if divisor(k, n-1) == 1 {
				want++
			}
		}
		if right != want {
			t.Errorf("%d bases prove %d, want %d", right, n, want)
		}
	}
}

// P9.1: proofs of products whose powers are as if they were prime, but whose parts are not.
func TestCheckProofsOfProducts(t *testing.T) {
	for n := uint64(4); n < 400; n++ {
		for base := uint64(2); base < n; base++ {
			for _, parts := range [][]prime.Proof{nil, {leaf(n - 1)}, {{N: n - 1, Base: n - 2, Parts: []prime.Proof{leaf(n - 3)}}}, {leaf(2), leaf((n - 1) / 2)}} {
				p := prime.Proof{N: n, Base: base, Parts: parts}
				checkProof(t, p, isProved(p))
			}
		}
	}
	// Modulo 2047, the powers of 2 return to 1 after 11 steps, and 2047 - 1 is 2 3 11 31.
	p := prime.Proof{N: 2047, Base: 2, Parts: []prime.Proof{leaf(2), leaf(3), proved(t, 11), proved(t, 31)}}
	checkProof(t, p, false)
}

// P9.1: proofs that are too many, too deep, or in themselves.
func TestCheckLargeProofs(t *testing.T) {
	wide := prime.Proof{N: 11, Base: 2, Parts: []prime.Proof{leaf(2), leaf(5)}}
	for range 100000 {
		wide.Parts = append(wide.Parts, leaf(7))
	}
	checkProof(t, wide, false)
	same := prime.Proof{N: 11, Base: 2, Parts: slices.Repeat([]prime.Proof{leaf(2)}, 10001)}
	checkProof(t, same, false)
	for _, depth := range []int{63, 64, 65, 66, 1000, 100000} {
		deep := leaf(2)
		for range depth {
			deep = prime.Proof{N: 3, Base: 2, Parts: []prime.Proof{deep}}
		}
		checkProof(t, deep, false)
		falling := leaf(2)
		for i := range depth {
			falling = prime.Proof{N: uint64(i) + 3, Base: uint64(i) + 2, Parts: []prime.Proof{falling}}
		}
		checkProof(t, falling, false)
	}
	for _, n := range []uint64{3, 5, 7, 11, 17, 4, 0} {
		loop := make([]prime.Proof, 2)
		loop[0] = prime.Proof{N: n, Base: 2, Parts: loop[:1]}
		loop[1] = prime.Proof{N: 2*n + 1, Base: 2, Parts: loop}
		for _, p := range loop {
			if e := prime.CheckProof(p); e != api.ErrProof {
				t.Errorf("CheckProof of a proof of %d in itself: error %d", p.N, e)
			}
		}
	}
}

// P9.1: proofs in one another: each of these prime numbers is twice the one before, and 1.
func TestDeepProofs(t *testing.T) {
	for _, first := range []uint64{11, 89, 1122659, 19099919, 85864769, 26089808579, 554688278429} {
		p := proved(t, first)
		for n := 2*first + 1; prime.IsPrime(n); n = 2*n + 1 {
			base, e := prime.Generator(n)
			p = prime.Proof{N: n, Base: base, Parts: []prime.Proof{leaf(2), p}}
			if e != api.OK || !isProved(p) {
				t.Errorf("proof of %d by %d is not right: %v", n, base, p)
			}
			checkProof(t, p, true)
			p.Parts[1].Base++
			checkProof(t, p, isProved(p))
			p.Parts[1].Base--
		}
	}
}

// overwrite changes all that is in the memory of a proof.
func overwrite(p prime.Proof) {
	for i := range p.Parts {
		overwrite(p.Parts[i])
		p.Parts[i] = prime.Proof{N: 1}
	}
}

// R4, R7: a proof shares no memory with another one, nor its parts with one another.
func TestMemoryOfProofs(t *testing.T) {
	for _, n := range []uint64{2, 11, 30011, 1<<64 - 59, 1<<63 - 25, 4294967291} {
		p := proved(t, n)
		want := copied(p)
		overwrite(proved(t, n))
		if !reflect.DeepEqual(p, want) || !reflect.DeepEqual(proved(t, n), want) {
			t.Errorf("proofs of %d share memory", n)
		}
		for i := range p.Parts {
			overwrite(p.Parts[i])
			if !reflect.DeepEqual(p.Parts[i+1:], want.Parts[i+1:]) {
				t.Errorf("parts of a proof of %d share memory", n)
			}
		}
	}
}
