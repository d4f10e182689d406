package oracle

import (
	"slices"

	"reckoner/api"
	"reckoner/internal/rows"
)

// Zeros returns a 0 of n words.
func Zeros(n int) api.Nat {
	return make(api.Nat, n)
}

// Ones returns 2^(64 n) - 1.
func Ones(n int) api.Nat {
	return slices.Repeat(api.Nat{Top}, n)
}

// Alone returns 2^s.
func Alone(s int) api.Nat {
	return Power(s).Words()
}

// Plus returns x + y, of any length.
func Plus(x, y api.Nat) api.Nat {
	z := Zeros(max(len(x), len(y)) + 1)
	rows.Add(z, x, 1)
	rows.Add(z, y, 1)
	return rows.Used(z)
}

// Less returns x - 1, for an x that is not 0.
func Less(x api.Nat) api.Nat {
	z := slices.Clone(x)
	rows.Take(z, api.Nat{1}, 1)
	return rows.Used(z)
}

// Times returns x y, of any length, by the schoolbook.
func Times(x, y api.Nat) api.Nat {
	z := Zeros(len(x) + len(y))
	for i, w := range y {
		rows.Add(z[i:], x, w)
	}
	return rows.Used(z)
}

// Pow returns x to the power of k, of any length.
func Pow(x api.Nat, k int) api.Nat {
	switch {
	case k == 0:
		return api.Nat{1}
	case k%2 == 1:
		return Times(Pow(x, k-1), x)
	}
	half := Pow(x, k/2)
	return Times(half, half)
}

// Shapes returns numbers of n words, n at least 2: powers of 2 and numbers beside them, some in which carries go far, and a mixed one. The second half of them has the highest bit.
func Shapes(n int, m *Mixer) []api.Nat {
	shape := func(last, lower uint64) api.Nat {
		return append(slices.Repeat(api.Nat{lower}, n-1), last)
	}
	mixed := shape(1+m.Next()>>9, 0)
	copy(mixed, m.Row(n-1))
	return []api.Nat{
		shape(1, 0), append(api.Nat{1}, shape(1, 0)[1:]...), shape(1, Top), shape(Half-1, Top), mixed,
		shape(Half, 0), append(api.Nat{3}, shape(Half, 0)[1:]...), shape(Half, Top), shape(Top, 0), Ones(n),
	}
}

// Samples returns numbers of all kinds, of up to so many words: 0, also with words that are 0, all that have one or two words at which carries begin and end, and longer ones of all shapes.
func Samples(most int, m *Mixer) []api.Nat {
	list := []api.Nat{nil, {0, 0}, {2}, {6, 0}, {Top, 0, 0}}
	for _, w := range Edges() {
		list = append(list, api.Nat{w})
		for _, v := range Edges()[1:] {
			list = append(list, api.Nat{w, v})
		}
	}
	for n := 3; n <= most; n += 1 + n/4 {
		list = append(list, Shapes(n, m)...)
	}
	return list
}
