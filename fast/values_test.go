package fast_test

import (
	"math"
	"slices"
	"testing"

	"reckoner/api"
	"reckoner/fast"
	"reckoner/internal/oracle"
)

// integer returns x, or -x.
func integer(neg bool, x api.Nat) api.Int {
	return api.Int{Neg: neg, Mag: x}
}

// small returns the canonical integers of a list.
func small(l ...int) []api.Int {
	var list []api.Int
	for _, i := range l {
		list = append(list, canonical(oracle.Small(i)))
	}
	return list
}

func canonical(n oracle.Signed) api.Int {
	neg, words := n.Canonical()
	return api.Int{Neg: neg, Mag: words}
}

// signed returns the value of x.
func signed(x api.Int) oracle.Signed {
	return oracle.Integer(x.Neg, x.Mag...)
}

func sameInts(a, b []api.Int) bool {
	return slices.EqualFunc(a, b, func(x, y api.Int) bool { return x.Neg == y.Neg && slices.Equal(x.Mag, y.Mag) })
}

// checkInts reports results that are not the canonical integers that are wanted.
func checkInts(t *testing.T, got []api.Int, e api.Errno, want []api.Int, name string, args ...any) {
	t.Helper()
	if e != api.OK || !sameInts(got, want) {
		t.Errorf("%s%s: error %d,%s; want%s", name, shown(args...), e, shown(got), shown(want))
	}
}

// failsInts reports results that are not this error beside zero values.
func failsInts(t *testing.T, got []api.Int, e, want api.Errno, name string, args ...any) {
	t.Helper()
	for _, x := range got {
		if e != want || x.Neg || len(x.Mag) != 0 {
			t.Errorf("%s%s: error %d,%s; want error %d", name, shown(args...), e, shown(got), want)
			return
		}
	}
}

// integers returns numbers with signs that change in no simple order; some are 0 with a sign, some have words that are 0 at the end.
func integers() []api.Int {
	var list []api.Int
	m := oracle.Mixer(41)
	for _, x := range numbers() {
		list = append(list, integer(m.Next()>>40&1 == 1, x))
	}
	return append(list, integer(true, nil), integer(true, zeros(3)), integer(true, append(ones(2), 0)), integer(false, append(ones(2), 0)))
}

// valueAt returns the sum of l[i] t^i, power by power.
func valueAt(l []api.Int, t int) oracle.Signed {
	var sum oracle.Signed
	power := oracle.Small(1)
	for _, x := range l {
		sum = sum.Plus(signed(x).Times(power))
		power = power.Times(oracle.Small(t))
	}
	return sum
}

func checkValue(t *testing.T, l []api.Int, at int) {
	t.Helper()
	got, e := fast.Value(l, at)
	checkInts(t, []api.Int{got}, e, []api.Int{canonical(valueAt(l, at))}, "Value", l, at)
}

// P3.2: the value at each point.
func TestValue(t *testing.T) {
	list := integers()
	for at := -10; at <= 10; at++ {
		for i := 0; i+9 < len(list); i += 3 {
			checkValue(t, list[i:i+i%10], at)
		}
		checkValue(t, nil, at)
		checkValue(t, small(1, 2, 3), at)
		checkValue(t, small(0, 0, 0, -1, 0), at)
		checkValue(t, list[:100], at)
		checkValue(t, make([]api.Int, 100), at)
		checkValue(t, append(make([]api.Int, 99), small(-1)...), at)
		checkValue(t, small(-at, 1), at) // which has its root there
	}
}

// P3.2: points and lists for which there is no value.
func TestValueOfWrongLists(t *testing.T) {
	for _, l := range [][]api.Int{nil, small(1), small(1, -2, 3), {integer(false, ones(api.MaxWords)), integer(false, ones(api.MaxWords))}} {
		for _, at := range []int{-11, 11, -12, 100, 1 << 32, math.MinInt, math.MaxInt} {
			got, e := fast.Value(l, at)
			failsInts(t, []api.Int{got}, e, api.ErrArg, "Value", l, at)
		}
	}
	for _, n := range []int{101, 102, 5000} {
		for _, at := range []int{-10, 0, 1, 10, 11} {
			for _, x := range append(small(0, 1, -5), integer(true, ones(api.MaxWords))) {
				l := slices.Repeat([]api.Int{x}, n)
				got, e := fast.Value(l, at)
				failsInts(t, []api.Int{got}, e, api.ErrArg, "Value", l, at)
			}
		}
	}
}

// R2: values that are as large as they may be, also where the sum is larger on the way.
func TestLargeValues(t *testing.T) {
	most, minus := integer(false, ones(api.MaxWords)), integer(true, ones(api.MaxWords))
	upper := integer(false, alone(api.MaxShift-2))
	tenth := canonical(oracle.Small(7).Times(signed(integer(true, alone(api.MaxShift-7)))))
	for at, lists := range map[int][][]api.Int{
		0:   {{most, most}, {minus, most, minus}},
		1:   {{most}, {minus}, {most, minus}, {most, most, minus, minus}, {most, small(1)[0], small(-1)[0]}, {minus, minus, most, most, most}, append(slices.Repeat([]api.Int{most}, 50), slices.Repeat([]api.Int{minus}, 50)...)},
		-1:  {{most, most}, {minus, minus, most, most}, {most, small(-1)[0], small(-1)[0]}, {minus, most, most, minus, minus}, slices.Repeat([]api.Int{most}, 100)},
		2:   {{minus, upper}, {small(5)[0], upper}, {integer(true, alone(api.MaxShift-1)), integer(false, alone(api.MaxShift-1))}},
		-2:  {{most, upper}, {minus, integer(true, alone(api.MaxShift-2))}, {most, upper, {}, integer(false, alone(api.MaxShift-4))}},
		10:  {{most, tenth}, {tenth, integer(false, alone(api.MaxShift-4))}},
		-10: {{minus, tenth}},
	} {
		for _, l := range lists {
			checkValue(t, l, at)
		}
	}
}

// R2: values that are too large, by little and by much.
func TestTooLargeValues(t *testing.T) {
	most, minus := integer(false, ones(api.MaxWords)), integer(true, ones(api.MaxWords))
	upper := integer(true, alone(api.MaxShift-1))
	one, back := small(1)[0], small(-1)[0]
	for at, lists := range map[int][][]api.Int{
		1:   {{most, one}, {minus, back}, {one, most}, {upper, upper}, slices.Repeat([]api.Int{most}, 100), append(slices.Repeat([]api.Int{most}, 51), slices.Repeat([]api.Int{minus}, 49)...)},
		-1:  {{most, back}, {minus, one}, {most, minus}, {upper, one, upper}},
		2:   {{{}, upper}, {back, upper}, {most, most}, {minus, most, minus}, append(make([]api.Int, 99), most)},
		-2:  {{{}, upper}, {most, minus}, {most, most, most}},
		10:  {{{}, most}, {most, integer(false, alone(api.MaxShift-3))}, slices.Repeat([]api.Int{minus}, 100)},
		-10: {{{}, most}, {most, minus, most}},
	} {
		for _, l := range lists {
			got, e := fast.Value(l, at)
			failsInts(t, []api.Int{got}, e, api.ErrSize, "Value", l, at)
		}
	}
}

// fiveOf returns the five values of a polynomial.
func fiveOf(l []api.Int) []api.Int {
	v := []api.Int{}
	for _, at := range []int{0, 1, -1, 2} {
		v = append(v, canonical(valueAt(l, at)))
	}
	var last api.Int
	if len(l) == 5 {
		last = canonical(signed(l[4]))
	}
	return append(v, last)
}

// coefficients returns a list as Back returns it.
func coefficients(l []api.Int) []api.Int {
	c := make([]api.Int, 5)
	for i, x := range l {
		c[i] = canonical(signed(x))
	}
	return c
}

// checkFive checks Five, and P3.6: Back of it is the list, with 0 for what it does not have.
func checkFive(t *testing.T, l []api.Int) {
	t.Helper()
	v, e := fast.Five(l)
	checkInts(t, v[:], e, fiveOf(l), "Five", l)
	c, e := fast.Back(v)
	checkInts(t, c[:], e, coefficients(l), "Back of Five", l)
}

// P3.2, P3.6: the five values, there and back.
func TestFive(t *testing.T) {
	list := integers()
	for n := range 6 {
		for i := 0; i+n <= len(list); i++ {
			checkFive(t, list[i:i+n])
		}
	}
	for i := range 3125 {
		checkFive(t, small(i%5-2, i/5%5-2, i/25%5-2, i/125%5-2, i/625%5-2))
	}
	v, e := fast.Five(small(1, 2, 3))
	checkInts(t, v[:], e, small(1, 6, 2, 17, 0), "Five of 1, 2, 3")
}

// P3.2: lists that are too long, and values that are too large.
func TestFiveOfWrongLists(t *testing.T) {
	most, minus := integer(false, ones(api.MaxWords)), integer(true, ones(api.MaxWords))
	for _, n := range []int{6, 7, 100, 5000} {
		for _, x := range append(small(0, 1, -7), most) {
			l := slices.Repeat([]api.Int{x}, n)
			v, e := fast.Five(l)
			failsInts(t, v[:], e, api.ErrArg, "Five", l)
		}
	}
	one := small(1)[0]
	for _, l := range [][]api.Int{{most, one}, {one, most}, {minus, one}, {most, most}, {minus, most}, {{}, integer(true, alone(api.MaxShift-1))}, {{}, {}, {}, {}, integer(false, alone(api.MaxShift-4))}, {most, minus, most, minus, most}} {
		v, e := fast.Five(l)
		failsInts(t, v[:], e, api.ErrSize, "Five", l)
	}
}

// R2: five values, and coefficients, that are as large as they may be, also where a sum is larger on the way.
func TestLargeFive(t *testing.T) {
	const n = api.MaxShift
	for _, l := range [][]api.Int{
		{integer(false, ones(api.MaxWords))},
		{integer(true, ones(api.MaxWords))},
		{{}, {}, {}, {}, integer(true, append(ones(api.MaxWords-1), 1<<60-1))},
		{{}, {}, integer(false, alone(n-1)), integer(true, alone(n-2))},
		{integer(true, alone(n-1)), {}, integer(false, alone(n-1)), integer(true, alone(n-3))},
	} {
		checkFive(t, l)
	}
}

// array returns a list of five.
func array(l []api.Int) [5]api.Int {
	return [5]api.Int(l)
}

// P3.2: of all small values just those have coefficients that are the values of a polynomial, and they have its coefficients.
func TestBack(t *testing.T) {
	known := map[[5]int][5]int{}
	for i := range 5 * 19 * 15 * 17 * 5 {
		// With values from -2 to 2 no coefficient is greater than these.
		c := [5]int{i%5 - 2, i/5%19 - 9, i/95%15 - 7, i/1425%17 - 8, i/24225 - 2}
		v := [5]int{c[0], c[0] + c[1] + c[2] + c[3] + c[4], c[0] - c[1] + c[2] - c[3] + c[4], c[0] + 2*c[1] + 4*c[2] + 8*c[3] + 16*c[4], c[4]}
		if slices.Max(v[:]) <= 2 && slices.Min(v[:]) >= -2 {
			known[v] = c
		}
	}
	found := 0
	for i := range 3125 {
		v := [5]int{i%5 - 2, i/5%5 - 2, i/25%5 - 2, i/125%5 - 2, i/625%5 - 2}
		got, e := fast.Back(array(small(v[:]...)))
		c, ok := known[v]
		if !ok {
			failsInts(t, got[:], e, api.ErrNone, "Back", v)
			continue
		}
		found++
		checkInts(t, got[:], e, small(c[:]...), "Back", v)
	}
	if found < 100 {
		t.Errorf("only %d polynomials", found)
	}
	got, e := fast.Back(array(small(1, 6, 2, 17, 0)))
	checkInts(t, got[:], e, small(1, 2, 3, 0, 0), "Back of 1, 6, 2, 17, 0")
}

// P3.2: values next to those of a polynomial are those of none.
func TestBackOfNoPolynomial(t *testing.T) {
	list := integers()
	for i := range len(list) - 5 {
		v, _ := fast.Five(list[i : i+5])
		for _, at := range []int{1, 2, 3} {
			w := v
			w[at] = canonical(signed(v[at]).Plus(oracle.Small(1)))
			got, e := fast.Back(w)
			failsInts(t, got[:], e, api.ErrNone, "Back", w[:])
		}
	}
}

// withGreat returns polynomials with g as a coefficient, one for each that is none of the five values. If g is 2^(64 api.MaxWords), or next to it, on either side of 0, all other coefficients and all five values are nearer to 0.
func withGreat(g api.Int) [][]api.Int {
	part := func(neg bool, bits int) api.Int { return integer(neg != g.Neg, alone(api.MaxShift-bits)) }
	return [][]api.Int{
		{{}, g, {}, part(true, 2), {}},
		{part(true, 1), {}, g, {}, part(true, 2)},
		{part(false, 1), part(true, 1), {}, g, part(true, 1)},
	}
}

// R2: coefficients that are as large as they may be, and too large; that there are none comes before that.
func TestBackOfLargeValues(t *testing.T) {
	for _, neg := range []bool{false, true} {
		for _, l := range withGreat(integer(neg, ones(api.MaxWords))) {
			v := array(fiveOf(l))
			got, e := fast.Back(v)
			checkInts(t, got[:], e, coefficients(l), "Back", v[:])
		}
		for _, l := range withGreat(integer(neg, alone(api.MaxShift))) {
			v := array(fiveOf(l))
			got, e := fast.Back(v)
			failsInts(t, got[:], e, api.ErrSize, "Back", v[:])
			for _, at := range []int{1, 2, 3} {
				w := v
				w[at] = canonical(signed(v[at]).Plus(oracle.Small(1)))
				got, e := fast.Back(w)
				failsInts(t, got[:], e, api.ErrNone, "Back", w[:])
			}
		}
	}
}

// P3.6: the values of a product of polynomials of degree at most 2 are the products of theirs, and the last one is that of the coefficients of t^2.
func TestFiveOfProduct(t *testing.T) {
	list := integers()
	for i := range len(list) - 3 {
		a := list[i : i+i%4]
		at := (i*13 + 5) % (len(list) - 3)
		b := list[at : at+3]
		product := make([]oracle.Signed, 5)
		for j := range a {
			for k := range b {
				product[j+k] = product[j+k].Plus(signed(a[j]).Times(signed(b[k])))
			}
		}
		var c []api.Int
		for _, x := range product {
			c = append(c, canonical(x))
		}
		va, e1 := fast.Five(a)
		vb, e2 := fast.Five(b)
		v, e3 := fast.Five(c)
		for at := range 4 {
			want := canonical(signed(va[at]).Times(signed(vb[at])))
			checkInts(t, v[at:at+1], e1+e2+e3, []api.Int{want}, "Five of a product", a, b, at)
		}
		var last api.Int
		if len(a) == 3 {
			last = canonical(signed(a[2]).Times(signed(b[2])))
		}
		checkInts(t, v[4:], e1+e2+e3, []api.Int{last}, "Five of a product", a, b, 4)
	}
}
