package ntt_test

import (
	"slices"
	"testing"

	"reckoner/api"
	"reckoner/internal/oracle"
	"reckoner/ntt"
)

// powers returns the first n powers of w.
func powers(w uint64, n int) []uint64 {
	l := make([]uint64, n)
	for i, p := 0, uint64(1); i < n; i++ {
		l[i] = p
		p = times(p, w)
	}
	return l
}

// elements returns the element k of the sums of a[j] w^(j k), for a w whose power of the length of a is 1, and each k that is asked for.
func elements(a []uint64, w uint64, places ...int) []uint64 {
	n := len(a)
	known := powers(w, n)
	z := make([]uint64, len(places))
	for i, k := range places {
		for j, r := range a {
			if r != 0 {
				z[i] = sum(z[i], times(r, known[j*k%n]))
			}
		}
	}
	return z
}

// at returns the elements of a list at some places.
func at(l []uint64, places ...int) []uint64 {
	var z []uint64
	for _, k := range places {
		if k < len(l) {
			z = append(z, l[k])
		}
	}
	return z
}

// all returns the numbers less than n.
func all(n int) []int {
	var z []int
	for k := range n {
		z = append(z, k)
	}
	return z
}

// some returns some places of a list of n elements: the first and last ones, some in the middle, and mixed ones.
func some(n int) []int {
	z := []int{0, 1, 2, 3, n / 3, n/2 - 1, n / 2, n/2 + 1, n - 2, n - 1}
	m := oracle.Mixer(5)
	for range 6 {
		z = append(z, int(m.Next()%uint64(n)))
	}
	return z
}

// transform returns the transform of a by its definition.
func transform(a []uint64) []uint64 {
	return elements(a, root(len(a)), all(len(a))...)
}

// mixed returns n residues.
func mixed(m *oracle.Mixer, n int) []uint64 {
	l := m.Row(n)
	for i := range l {
		l[i] %= prime
	}
	return l
}

// single returns n residues, r at one place and 0 at the others.
func single(n, place int, r uint64) []uint64 {
	l := make([]uint64, n)
	l[place] = r
	return l
}

// lists returns lists of n residues, n at least 1: of great ones, of a single one, with gaps, in order, and mixed ones.
func lists(n int) [][]uint64 {
	m := oracle.Mixer(71)
	gapped := mixed(&m, n)
	clear(gapped[n/4 : n-n/4])
	ordered := make([]uint64, n)
	for i := range ordered {
		ordered[i] = uint64(i + 1)
	}
	return [][]uint64{slices.Repeat([]uint64{prime - 1}, n), make([]uint64, n), slices.Repeat([]uint64{1}, n), single(n, 0, 5), single(n, n-1, prime-1), single(n, n/2, 1<<63), gapped, ordered, mixed(&m, n)}
}

// P4.2: transforms by their definition.
func TestTransform(t *testing.T) {
	for n := 1; n <= 256; n *= 2 {
		for _, a := range lists(n) {
			got, e := ntt.Transform(a)
			check(t, got, e, transform(a), "Transform", a)
		}
	}
	got, e := ntt.Transform([]uint64{1, 2})
	check(t, got, e, []uint64{3, prime - 1}, "Transform of 1, 2")
	got, e = ntt.Transform([]uint64{0, 1, 0, 0})
	check(t, got, e, []uint64{1, 1 << 48, prime - 1, prime - 1<<48}, "Transform of 0, 1, 0, 0")
	got, e = ntt.Transform([]uint64{9})
	check(t, got, e, []uint64{9}, "Transform of 9")
}

// P4.2: lists whose transforms are given, by the definition of transforms.
func TestBack(t *testing.T) {
	for n := 1; n <= 256; n *= 2 {
		for _, a := range lists(n) {
			got, e := ntt.Back(transform(a))
			check(t, got, e, a, "Back of the transform of", a)
			got, e = ntt.Back(a)
			if !slices.Equal(transform(append(got, make([]uint64, n-len(got))...)), a) || len(got) != n || e != api.OK {
				t.Errorf("Back%s: error %d,%s", shown(a), e, shown(got))
			}
		}
	}
	got, e := ntt.Back([]uint64{3, prime - 1})
	check(t, got, e, []uint64{1, 2}, "Back of 3, P - 1")
}

// P4.2: transforms of long lists: all elements of one that has few, and some of the others.
func TestLongTransforms(t *testing.T) {
	m := oracle.Mixer(73)
	for n := 512; n <= 1<<16; n *= 2 {
		sparse := single(n, n-1, prime-1)
		sparse[1], sparse[n/2+3] = 5, m.Next()%prime
		got, e := ntt.Transform(sparse)
		known := powers(root(n), n)
		want := make([]uint64, n)
		for k := range want {
			for _, j := range []int{1, n/2 + 3, n - 1} {
				want[k] = sum(want[k], times(sparse[j], known[j*k%n]))
			}
		}
		check(t, got, e, want, "Transform", sparse)
		a := mixed(&m, n)
		got, e = ntt.Transform(a)
		check(t, at(got, some(n)...), e, elements(a, root(n), some(n)...), "Elements of Transform", a)
		again, e := ntt.Back(got)
		check(t, again, e, a, "Back of Transform", a)
		got, _ = ntt.Back(a)
		again, e = ntt.Transform(got)
		check(t, again, e, a, "Transform of Back", a)
	}
}

// wrongLengths are numbers of elements that are not lengths.
var wrongLengths = []int{0, 3, 5, 6, 7, 9, 12, 96, 1000, 1<<15 + 1, 3 << 14, 1<<16 - 1, 1<<16 + 1, 1 << 17, 1 << 18}

// P4.2: lists that are not transformed.
func TestTransformOfWrongLists(t *testing.T) {
	for _, f := range []func(a []uint64) ([]uint64, api.Errno){ntt.Transform, ntt.Back} {
		for _, n := range wrongLengths {
			got, e := f(make([]uint64, n))
			fails(t, got, e, api.ErrArg, "Transform or Back of zeros", n)
		}
		for _, n := range []int{1, 2, 4, 32, 1 << 16} {
			for _, wrong := range wrongs {
				for _, place := range []int{0, n / 2, n - 1} {
					got, e := f(single(n, place, wrong))
					fails(t, got, e, api.ErrArg, "Transform or Back", n, place, wrong)
				}
			}
		}
		got, e := f([]uint64{1, prime, 2})
		fails(t, got, e, api.ErrArg, "Transform or Back of a wrong number of words")
	}
}

// pairs returns pairs of lists of n residues.
func pairs(n int) [][2][]uint64 {
	var z [][2][]uint64
	l := lists(n)
	for i, a := range l {
		z = append(z, [2][]uint64{a, l[(2*i+5)%len(l)]}, [2][]uint64{a, l[len(l)-1]}, [2][]uint64{a, l[0]})
	}
	return z
}

// joinedBy returns what two lists make, place by place.
func joinedBy(f func(a, b uint64) uint64, a, b []uint64) []uint64 {
	z := make([]uint64, len(a))
	for i := range a {
		z[i] = f(a[i], b[i])
	}
	return z
}

// P4.6: transforms of round products and of sums, and Parseval.
func TestConvolution(t *testing.T) {
	for _, n := range []int{1, 2, 4, 64, 1024, 1 << 16} {
		for _, p := range pairs(n) {
			a, b := p[0], p[1]
			ta, e1 := ntt.Transform(a)
			tb, e2 := ntt.Transform(b)
			c, e3 := ntt.Round(a, b)
			got, e4 := ntt.Transform(c)
			both := joinedBy(times, ta, tb)
			check(t, got, e1+e2+e3+e4, both, "Transform of Round", a, b)
			got, e := ntt.Transform(joinedBy(sum, a, b))
			check(t, got, e, joinedBy(sum, ta, tb), "Transform of a sum", a, b)
			var left, right uint64
			for j := range a {
				left = sum(left, times(a[j], b[(n-j)%n]))
				right = sum(right, both[j])
			}
			if times(left, uint64(n)) != right {
				t.Errorf("sums of products of%s and of their transforms: %d, %d", shown(a, b), left, right)
			}
		}
	}
}

// P4.7: a transform twice is n times the list, read backwards but for its first element.
func TestTransformTwice(t *testing.T) {
	for n := 1; n <= 1<<16; n *= 4 {
		for _, a := range lists(n) {
			want := make([]uint64, n)
			for i, r := range a {
				want[(n-i)%n] = times(r, uint64(n))
			}
			once, e1 := ntt.Transform(a)
			got, e2 := ntt.Transform(once)
			check(t, got, e1+e2, want, "Transform of Transform", a)
		}
	}
}
