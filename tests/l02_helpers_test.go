package tests

import (
	"slices"
	"testing"

	"loop.example/g01201/impl"
)

const (
	leastSide = 3
	maxSide   = 16
	maxCells  = 256
)

var (
	least = numberOf(1)

	// someNotANumbers have several bits, and some of them a sign.
	someNotANumbers = []float32{numberOf(0x7fc00000), numberOf(0xffc00000), numberOf(0x7f800001), numberOf(0xff812345)}
)

// eachShape does something for all sides that a sheet can have.
func eachShape(do func(wide, high int64, wrap bool)) {
	for wide := int64(leastSide); wide <= maxSide; wide++ {
		for high := int64(leastSide); high <= maxSide; high++ {
			do(wide, high, false)
			do(wide, high, true)
		}
	}
}

// blankSheet returns a sheet of zeros; it is not valid where its sides are not.
func blankSheet(wide, high int64, wrap bool) impl.Sheet {
	return impl.Sheet{
		Wide: wide, High: high, Wrap: wrap,
		Speeds: make([]float32, wide*high), Losses: make([]float32, wide*high),
	}
}

// anySheet returns a valid sheet whose cells differ.
func anySheet(source *numbers, wide, high int64, wrap bool) impl.Sheet {
	s := blankSheet(wide, high, wrap)
	for i := range s.Speeds {
		s.Speeds[i] = picked(source, []float32{0, negativeZero, least, 0.5, part(source) / 2, part(source) / 2})
		s.Losses[i] = picked(source, []float32{0, negativeZero, least, 1, part(source), part(source) * part(source)})
	}
	return s
}

// part returns a number that is at least 0 and less than 1.
func part(source *numbers) float32 { return float32(source.next()>>40) / (1 << 24) }

func picked[T any](source *numbers, list []T) T {
	return list[(source.next()>>33)%uint64(len(list))]
}

// smallInteger returns an integer from -20 to 20 that is not 0.
func smallInteger(source *numbers) float32 {
	n := int(source.next()>>33%40) - 20
	if n >= 0 {
		n++
	}
	return float32(n)
}

// isFree tells whether E, X and Y of a cell may be other than zero.
func isFree(s impl.Sheet, x, y int64) (e, below, beside bool) {
	if s.Wrap {
		return true, true, true
	}
	e = x > 0 && x < s.Wide-1 && y > 0 && y < s.High-1
	return e, y < s.High-1, x < s.Wide-1
}

// anyField returns a field with numbers of some kind, but zeros of both signs
// where there must be zeros.
func anyField(source *numbers, s impl.Sheet, number func(source *numbers) float32) impl.Field {
	var f impl.Field
	take := func(list []float32, free bool) []float32 {
		if free {
			return append(list, number(source))
		}
		return append(list, picked(source, []float32{0, negativeZero}))
	}
	for y := range s.High {
		for x := range s.Wide {
			e, below, beside := isFree(s, x, y)
			f.E, f.X, f.Y = take(f.E, e), take(f.X, below), take(f.Y, beside)
		}
	}
	return f
}

func blankField(s impl.Sheet) impl.Field {
	n := s.Wide * s.High
	return impl.Field{E: make([]float32, n), X: make([]float32, n), Y: make([]float32, n)}
}

func copySheet(s impl.Sheet) impl.Sheet {
	s.Speeds, s.Losses = slices.Clone(s.Speeds), slices.Clone(s.Losses)
	return s
}

func copyField(f impl.Field) impl.Field {
	return impl.Field{E: slices.Clone(f.E), X: slices.Clone(f.X), Y: slices.Clone(f.Y)}
}

// listsOf returns the lists of a field, which share its memory.
func listsOf(f impl.Field) [3][]float32 { return [3][]float32{f.E, f.X, f.Y} }

func isSheet(t *testing.T, what string, got impl.Sheet, ok bool, want impl.Sheet) {
	t.Helper()
	is(t, what, told(got, ok), told(want, true))
}

func isField(t *testing.T, what string, got impl.Field, ok bool, want impl.Field) {
	t.Helper()
	is(t, what, told(got, ok), told(want, true))
}

func isNoSheet(t *testing.T, what string, got impl.Sheet, ok bool) {
	t.Helper()
	is(t, what, told(got, ok), told(impl.Sheet{}, false))
}

func isNoField(t *testing.T, what string, got impl.Field, ok bool) {
	t.Helper()
	is(t, what, told(got, ok), told(impl.Field{}, false))
}
