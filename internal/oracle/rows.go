package oracle

// Words at which carries begin and end.
const (
	Top  = ^uint64(0)
	Half = uint64(1) << 63
)

// Edges returns the words at which carries begin and end, with those beside them.
func Edges() []uint64 {
	return []uint64{0, 1, 3, Half - 1, Half, Top - 1, Top}
}

// Mixer gives words that follow one another without a pattern, the same ones each time. It begins with any word but 0.
type Mixer uint64

// Next returns the next word.
func (m *Mixer) Next() uint64 {
	*m ^= *m << 13
	*m ^= *m >> 7
	*m ^= *m << 17
	return uint64(*m)
}

// Row returns the next n words.
func (m *Mixer) Row(n int) []uint64 {
	row := make([]uint64, n)
	for i := range row {
		row[i] = m.Next()
	}
	return row
}

// Framed returns a copy of a row that lies within a longer one, and the longer one.
func Framed(row []uint64) (inner, outer []uint64) {
	outer = append([]uint64{11, 12}, row...)
	outer = append(outer, 13, 14, 15)
	return outer[2 : 2+len(row)], outer
}

// Short returns the beginning of a row, as a test's message shows it.
func Short(x []uint64) []uint64 {
	return x[:min(len(x), 9)]
}
