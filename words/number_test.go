package words_test

// number is a natural number in the base 256, the least significant digit first. The tests calculate with it digit by digit, so that they owe nothing to the package or to wide products of the machine.
type number []int

// value returns the value of a row.
func value(row ...uint64) number {
	var n number
	for _, w := range row {
		for range 8 {
			n = append(n, int(w&255))
			w >>= 8
		}
	}
	return n
}

// carried turns digits of any size into digits of the base, without zeros at the end.
func carried(digits []int) number {
	var n number
	carry := 0
	for i := 0; i < len(digits) || carry > 0; i++ {
		if i < len(digits) {
			carry += digits[i]
		}
		n = append(n, carry&255)
		carry >>= 8
	}
	for len(n) > 0 && n[len(n)-1] == 0 {
		n = n[:len(n)-1]
	}
	return n
}

func (n number) plus(m number) number {
	digits := make([]int, max(len(n), len(m)))
	for i, d := range n {
		digits[i] += d
	}
	for i, d := range m {
		digits[i] += d
	}
	return carried(digits)
}

func (n number) times(m number) number {
	digits := make([]int, len(n)+len(m))
	for i, d := range n {
		for j, e := range m {
			digits[i+j] += d * e
		}
	}
	return carried(digits)
}

// above returns n 2^(64 words).
func (n number) above(words int) number {
	return append(make(number, 8*words), n...)
}

// power returns 2^s.
func power(s int) number {
	return append(make(number, s/8), 1<<(s%8))
}

// compare returns -1, 0 or 1, as n is less than, equal to or greater than m.
func (n number) compare(m number) int {
	a, b := carried(n), carried(m)
	if len(a) != len(b) {
		return sign(len(a) - len(b))
	}
	for i := len(a) - 1; i >= 0; i-- {
		if a[i] != b[i] {
			return sign(a[i] - b[i])
		}
	}
	return 0
}

func sign(d int) int {
	switch {
	case d < 0:
		return -1
	case d > 0:
		return 1
	}
	return 0
}
