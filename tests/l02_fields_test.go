package tests

import (
	"fmt"
	"math"
	"slices"
	"testing"

	"loop.example/g01201/impl"
)

var someSides = [][2]int64{{3, 3}, {3, 4}, {4, 3}, {5, 4}, {3, 16}, {16, 3}, {16, 16}}

func TestIsFieldOfEachNumber(t *testing.T) {
	zeros := []float32{0, negativeZero}
	others := append([]float32{1, -1, least, -least, math.MaxFloat32, infinity, -infinity}, someNotANumbers...)
	for _, side := range someSides {
		for _, wrap := range []bool{false, true} {
			s := blankSheet(side[0], side[1], wrap)
			f := blankField(s)
			for i := range f.E {
				e, below, beside := isFree(s, int64(i)%s.Wide, int64(i)/s.Wide)
				for k, free := range []bool{e, below, beside} {
					what := fmt.Sprint("IsField ", side, wrap, i, k)
					place := &listsOf(f)[k][i]
					isFieldWith(t, what, s, f, place, zeros, true)
					isFieldWith(t, what, s, f, place, others, free)
				}
			}
		}
	}
}

// isFieldWith puts each of some numbers in a place of a field, and a 0 in the end.
func isFieldWith(t *testing.T, what string, s impl.Sheet, f impl.Field, place *float32, list []float32, want bool) {
	t.Helper()
	for _, x := range list {
		*place = x
		is(t, what+" "+wordOf(x), impl.IsField(s, f), want)
	}
	*place = 0
}

// The places of a small sheet are told one by one here, so that they do not
// depend on what other tests take for free.
func TestWallsOfASmallSheet(t *testing.T) {
	s := blankSheet(4, 3, false)
	free := [3][]int{{5, 6}, {0, 1, 2, 3, 4, 5, 6, 7}, {0, 1, 2, 4, 5, 6, 8, 9, 10}}
	for k, indices := range free {
		for i := range 12 {
			f := blankField(s)
			listsOf(f)[k][i] = 1
			is(t, fmt.Sprint("IsField ", k, i), impl.IsField(s, f), slices.Contains(indices, i))
		}
	}
}

func TestIsFieldOfLengths(t *testing.T) {
	for _, wrap := range []bool{false, true} {
		s := blankSheet(3, 4, wrap)
		is(t, "the field of zeros", impl.IsField(s, blankField(s)), true)
		is(t, "no lists", impl.IsField(s, impl.Field{}), false)
		for _, n := range []int{0, 1, 9, 11, 13, 24, 1000} {
			e, x, y := blankField(s), blankField(s), blankField(s)
			e.E, x.X, y.Y = make([]float32, n), make([]float32, n), make([]float32, n)
			is(t, fmt.Sprint("E ", n), impl.IsField(s, e), false)
			is(t, fmt.Sprint("X ", n), impl.IsField(s, x), false)
			is(t, fmt.Sprint("Y ", n), impl.IsField(s, y), false)
			is(t, fmt.Sprint("all ", n), impl.IsField(s, impl.Field{E: e.E, X: x.X, Y: y.Y}), false)
		}
	}
}

func TestIsFieldOfSheetsThatAreNotValid(t *testing.T) {
	f := blankField(blankSheet(3, 3, true))
	for _, change := range []func(s *impl.Sheet){
		func(s *impl.Sheet) { s.Speeds[8] = 0.75 },
		func(s *impl.Sheet) { s.Losses[8] = notANumber },
		func(s *impl.Sheet) { s.Losses = s.Losses[:8] },
		func(s *impl.Sheet) { s.Wide = 0 },
		func(s *impl.Sheet) { s.Wide, s.High = 1, 9 },
		func(s *impl.Sheet) { *s = impl.Sheet{} },
	} {
		s := blankSheet(3, 3, true)
		change(&s)
		is(t, "IsField", impl.IsField(s, f), false)
		got, ok := impl.ZeroField(s)
		isNoField(t, "ZeroField", got, ok)
	}
	is(t, "nothing", impl.IsField(impl.Sheet{}, impl.Field{}), false)
}

func TestFieldsOfOtherShapes(t *testing.T) {
	sides := [][2]int64{{3, 8}, {4, 6}, {6, 4}, {8, 3}}
	source := numbers{30}
	for _, one := range sides {
		f := anyField(&source, blankSheet(one[0], one[1], false), smallInteger)
		for _, other := range sides {
			what := fmt.Sprint("IsField ", one, other)
			is(t, what, impl.IsField(blankSheet(other[0], other[1], false), f), one == other)
			is(t, what+" with Wrap", impl.IsField(blankSheet(other[0], other[1], true), f), true)
		}
	}
}

func TestZeroField(t *testing.T) {
	source := numbers{31}
	eachShape(func(wide, high int64, wrap bool) {
		s := anySheet(&source, wide, high, wrap)
		f, ok := impl.ZeroField(s)
		isField(t, "ZeroField", f, ok, blankField(s))
		is(t, "IsField", impl.IsField(s, f), true)
	})
}

func TestSameFieldOfEachNumber(t *testing.T) {
	source := numbers{32}
	f := anyField(&source, blankSheet(4, 3, true), smallInteger)
	is(t, "a copy", impl.SameField(f, copyField(f)), true)
	for k := range 3 {
		for i := range 12 {
			g := copyField(f)
			listsOf(g)[k][i] += 0.5
			is(t, fmt.Sprint("another number ", k, i), impl.SameField(f, g), false)
			is(t, fmt.Sprint("another number in both ", k, i), impl.SameField(g, copyField(g)), true)
			zero, signed := copyField(f), copyField(f)
			listsOf(zero)[k][i], listsOf(signed)[k][i] = 0, negativeZero
			is(t, fmt.Sprint("zeros ", k, i), impl.SameField(zero, signed), false)
			one, other := copyField(f), copyField(f)
			listsOf(one)[k][i], listsOf(other)[k][i] = someNotANumbers[i%4], someNotANumbers[(i+1)%4]
			is(t, fmt.Sprint("not-a-numbers ", k, i), impl.SameField(one, other), true)
			is(t, fmt.Sprint("one not-a-number ", k, i), impl.SameField(one, f), false)
		}
	}
}

func TestSameFieldOfWhatAreNoFields(t *testing.T) {
	is(t, "nothing", impl.SameField(impl.Field{}, impl.Field{E: []float32{}, Y: []float32{}}), true)
	f := impl.Field{E: []float32{1, 2}, X: []float32{3}, Y: repeated[float32](4, 1000)}
	is(t, "a copy", impl.SameField(f, copyField(f)), true)
	for what, g := range map[string]impl.Field{
		"fewer of E":      {E: []float32{1}, X: f.X, Y: f.Y},
		"more of X":       {E: f.E, X: []float32{3, 0}, Y: f.Y},
		"none of X":       {E: f.E, Y: f.Y},
		"fewer of Y":      {E: f.E, X: f.X, Y: f.Y[:999]},
		"one moved":       {E: []float32{1}, X: []float32{2, 3}, Y: f.Y},
		"lists exchanged": {E: f.E, X: f.Y, Y: f.X},
	} {
		is(t, what, impl.SameField(f, g), false)
		is(t, what+", the other way round", impl.SameField(g, f), false)
	}
}

func TestValuesOfAllCells(t *testing.T) {
	source := numbers{33}
	for _, side := range someSides {
		for _, wrap := range []bool{false, true} {
			s := anySheet(&source, side[0], side[1], wrap)
			f := anyField(&source, s, special)
			for y := range s.High {
				for x := range s.Wide {
					got, ok := impl.ValueAt(s, f, x, y)
					is(t, "ValueAt succeeds", ok, true)
					isNumber(t, fmt.Sprint("ValueAt ", side, x, y), got, f.E[x+s.Wide*y])
					isPut(t, s, f, x, y)
				}
			}
		}
	}
}

// isPut puts several numbers in a cell.
func isPut(t *testing.T, s impl.Sheet, f impl.Field, x, y int64) {
	t.Helper()
	free, _, _ := isFree(s, x, y)
	for _, value := range []float32{0, negativeZero, 1, -least, infinity, notANumber} {
		what := fmt.Sprint("PutValue ", s.Wide, s.High, s.Wrap, x, y, value)
		got, ok := impl.PutValue(s, f, x, y, value)
		if !free && value != 0 {
			isNoField(t, what, got, ok)
			continue
		}
		want := copyField(f)
		want.E[x+s.Wide*y] = value
		isField(t, what, got, ok, want)
		is(t, "IsField", impl.IsField(s, got), true)
	}
}

func TestCellsOutsideTheSheet(t *testing.T) {
	for _, wrap := range []bool{false, true} {
		s := blankSheet(4, 5, wrap)
		f := blankField(s)
		for _, c := range [][2]int64{
			{-1, 0}, {0, -1}, {4, 0}, {0, 5}, {4, 5}, {-1, 1}, {4, 2}, {-4, 2}, {8, 2}, {19, 0}, {20, 0}, {5, -1},
			{math.MinInt64, 0}, {0, math.MinInt64}, {math.MaxInt64, 0}, {0, math.MaxInt64}, {0, 1 << 62}, {1 << 62, 3},
		} {
			what := fmt.Sprint(c, wrap)
			got, ok := impl.ValueAt(s, f, c[0], c[1])
			is(t, "ValueAt "+what, told(got, ok), told(float32(0), false))
			for _, value := range []float32{0, 1} {
				g, ok := impl.PutValue(s, f, c[0], c[1], value)
				isNoField(t, "PutValue "+what, g, ok)
			}
		}
	}
}

func TestSumsOfFields(t *testing.T) {
	isTogether(t, []together{
		{1, 2, 3}, {1, -1, 0}, {-1, 1, 0}, {0, 0, 0}, {0, negativeZero, 0}, {negativeZero, 0, 0},
		{negativeZero, negativeZero, negativeZero},
		{1 << 24, 1, 1 << 24}, {1<<24 + 2, 1, 1<<24 + 4}, {1, 0x1p-24, 1}, {numberOf(0x3f800001), 0x1p-24, numberOf(0x3f800002)},
		{3e38, 3e38, infinity}, {math.MaxFloat32, 0x1p102, math.MaxFloat32}, {math.MaxFloat32, 0x1p103, infinity},
		{infinity, -infinity, notANumber}, {infinity, -1, infinity}, {notANumber, 1, notANumber},
		{1, numberOf(0xff800001), notANumber}, {least, least, 2 * least}, {0x1p-126, -least, numberOf(0x007fffff)},
	}, func(s impl.Sheet, a impl.Field, _ float32, b impl.Field) (impl.Field, bool) {
		return impl.AddFields(s, a, b)
	})
}

func TestProductsOfFields(t *testing.T) {
	a := float32(1 + 0x1p-12)
	isTogether(t, []together{
		{2, 3, 6}, {2, -0.5, -1}, {0, 5, 0}, {0, -5, negativeZero}, {negativeZero, -5, 0}, {4, 0, 0}, {4, negativeZero, negativeZero},
		{a, a, 1 + 0x1p-11}, {3e38, 2, infinity}, {-3e38, 2, -infinity}, {infinity, 2, infinity}, {notANumber, 2, notANumber},
		{infinity, 0, notANumber}, {least, 0.5, 0}, {-least, 0.5, negativeZero}, {3 * least, 0.5, 2 * least}, {0x1p-126, 0.5, 0x1p-127},
	}, func(s impl.Sheet, a impl.Field, by float32, _ impl.Field) (impl.Field, bool) {
		return impl.ScaleField(s, a, by)
	})
}

// together are two numbers and what they make.
type together struct{ a, b, want float32 }

// isTogether puts numbers in each free place of sheets, and looks at what is made.
func isTogether(t *testing.T, cases []together, build func(s impl.Sheet, a impl.Field, b float32, bs impl.Field) (impl.Field, bool)) {
	t.Helper()
	for _, wrap := range []bool{false, true} {
		s := blankSheet(4, 3, wrap)
		for _, c := range cases {
			for i := range 12 {
				e, below, beside := isFree(s, int64(i)%4, int64(i)/4)
				for k, free := range []bool{e, below, beside} {
					if !free {
						continue
					}
					a, b := blankField(s), blankField(s)
					listsOf(a)[k][i], listsOf(b)[k][i] = c.a, c.b
					got, ok := build(s, a, c.b, b)
					is(t, fmt.Sprint("succeeds ", c), ok, true)
					isNumber(t, fmt.Sprint(c, i, k), listsOf(got)[k][i], c.want)
				}
			}
		}
	}
}

func TestSumsAndProductsOfAllNumbers(t *testing.T) {
	source := numbers{34}
	for _, side := range someSides {
		for _, wrap := range []bool{false, true} {
			s := anySheet(&source, side[0], side[1], wrap)
			a, b := anyField(&source, s, special), anyField(&source, s, special)
			by := picked(&source, []float32{0, negativeZero, 2, -3, 1e30, 1e-30, math.MaxFloat32, least})
			sum, product := blankField(s), blankField(s)
			for k := range 3 {
				for i, x := range listsOf(a)[k] {
					listsOf(sum)[k][i] = x + listsOf(b)[k][i]
					listsOf(product)[k][i] = x * by
				}
			}
			got, ok := impl.AddFields(s, a, b)
			isField(t, "AddFields", got, ok, sum)
			got, ok = impl.ScaleField(s, a, by)
			isField(t, "ScaleField", got, ok, product)
		}
	}
}

func TestScaleFieldByWhatIsNotFinite(t *testing.T) {
	for _, by := range append([]float32{infinity, -infinity}, someNotANumbers...) {
		s := blankSheet(3, 3, false)
		got, ok := impl.ScaleField(s, blankField(s), by)
		isNoField(t, "ScaleField with walls", got, ok)
		s.Wrap = true
		f := blankField(s)
		f.E[0], f.X[8], f.Y[2] = 1, -1, notANumber
		want := impl.Field{E: repeated(notANumber, 9), X: repeated(notANumber, 9), Y: repeated(notANumber, 9)}
		want.E[0], want.X[8] = by, -by
		got, ok = impl.ScaleField(s, f, by)
		isField(t, "ScaleField with joined edges", got, ok, want)
	}
}

func TestZerosOfBothSignsInTheBorder(t *testing.T) {
	s := blankSheet(3, 3, false)
	a, b := blankField(s), blankField(s)
	a.E[0], a.X[6], a.Y[2] = negativeZero, negativeZero, negativeZero
	b.E[0], b.X[6], b.Y[2] = negativeZero, negativeZero, negativeZero
	got, ok := impl.AddFields(s, a, b)
	isField(t, "AddFields", got, ok, a)
	got, ok = impl.ScaleField(s, a, 3)
	isField(t, "ScaleField", got, ok, a)
	got, ok = impl.ScaleField(s, a, -3)
	all := impl.Field{E: repeated(negativeZero, 9), X: repeated(negativeZero, 9), Y: repeated(negativeZero, 9)}
	all.E[0], all.X[6], all.Y[2] = 0, 0, 0
	isField(t, "ScaleField by less than 0", got, ok, all)
}

// withoutField are pairs of a sheet and what is not a field of it.
func withoutField() []struct {
	s impl.Sheet
	f impl.Field
} {
	walls := blankSheet(4, 3, false)
	none := blankSheet(4, 3, true)
	none.Speeds[11] = 0.75
	corner, row, column, short := blankField(walls), blankField(walls), blankField(walls), blankField(walls)
	corner.E[11], row.X[8], column.Y[3], short.X = 1, least, notANumber, make([]float32, 11)
	return []struct {
		s impl.Sheet
		f impl.Field
	}{
		{walls, corner}, {walls, row}, {walls, column}, {walls, short}, {none, blankField(none)},
		{impl.Sheet{}, impl.Field{}}, {blankSheet(2, 6, true), blankField(walls)}, {blankSheet(17, 3, true), blankField(blankSheet(17, 3, true))},
	}
}

func TestFunctionsRequireFields(t *testing.T) {
	for _, c := range withoutField() {
		is(t, "IsField", impl.IsField(c.s, c.f), false)
		zero := blankField(c.s)
		value, ok := impl.ValueAt(c.s, c.f, 1, 1)
		is(t, "ValueAt", told(value, ok), told(float32(0), false))
		value, ok = impl.EnergyOf(c.s, c.f)
		is(t, "EnergyOf", told(value, ok), told(float32(0), false))
		at, value, ok := impl.PeakOf(c.s, c.f)
		is(t, "PeakOf", told(at, value, ok), told(int64(0), float32(0), false))
		for what, build := range map[string]func() (impl.Field, bool){
			"PutValue":             func() (impl.Field, bool) { return impl.PutValue(c.s, c.f, 1, 1, 0) },
			"AddFields, the first": func() (impl.Field, bool) { return impl.AddFields(c.s, c.f, zero) },
			"AddFields, the other": func() (impl.Field, bool) { return impl.AddFields(c.s, zero, c.f) },
			"ScaleField":           func() (impl.Field, bool) { return impl.ScaleField(c.s, c.f, 0) },
			"MirrorField":          func() (impl.Field, bool) { return impl.MirrorField(c.s, c.f) },
			"SwapField":            func() (impl.Field, bool) { return impl.SwapField(c.s, c.f) },
			"ShiftField":           func() (impl.Field, bool) { return impl.ShiftField(c.s, c.f, 0, 0) },
		} {
			got, ok := build()
			isNoField(t, what, got, ok)
		}
	}
}

func TestExampleOfSheets(t *testing.T) {
	s, ok := impl.PlainSheet(3, 3, false, 0.5)
	is(t, "PlainSheet succeeds", ok, true)
	zero, _ := impl.ZeroField(s)
	for i := range int64(9) {
		f, ok := impl.PutValue(s, zero, i%3, i/3, 2)
		is(t, "PutValue succeeds", ok, i == 4)
		if ok {
			energy, ok := impl.EnergyOf(s, f)
			is(t, "the energy of 2 in the middle", told(energy, ok), told(float32(4), true))
		}
	}
}

func TestEnergyOf(t *testing.T) {
	s := blankSheet(3, 3, true)
	list := func(numbers ...float32) []float32 { return append(numbers, make([]float32, 9-len(numbers))...) }
	none := list()
	cases := []struct {
		what string
		f    impl.Field
		want float32
	}{
		{"zeros with signs", impl.Field{E: repeated(negativeZero, 9), X: none, Y: none}, 0},
		{"all lists", impl.Field{E: list(1, -2), X: list(0, 3), Y: list(0, 0, 0, 0, 0, 0, 0, 0, 4)}, 30},
		{"what 32 bits lose", impl.Field{E: list(1 << 12), X: list(1), Y: list(-1)}, 1<<24 + 2},
		{"what 64 bits lose", impl.Field{E: list(1<<27, 1<<15), X: list(1, 1), Y: list(1, 1)}, 1 << 54},
		{"X before the great ones", impl.Field{E: none, X: list(1, 1, 1, 1), Y: list(1<<27, 1<<15)}, 1<<54 + 1<<31},
		{"E before the great ones", impl.Field{E: list(1, 1, 1, 1), X: list(1<<27, 1<<15), Y: none}, 1<<54 + 1<<31},
		{"the great ones before Y", impl.Field{E: none, X: list(1<<27, 1<<15), Y: list(1, 1, 1, 1)}, 1 << 54},
		{"great ones first in a list", impl.Field{E: none, X: list(1<<27, 1<<15, 1, 1, 1, 1), Y: none}, 1 << 54},
		{"great ones last in a list", impl.Field{E: none, X: list(1, 1, 1, 1, 1<<27, 1<<15), Y: none}, 1<<54 + 1<<31},
		{"squares that are too great", impl.Field{E: list(1e20), X: none, Y: none}, infinity},
		{"a sum that is too great", impl.Field{E: list(0x1p63), X: list(0x1p63), Y: list(0x1p63, 0x1p63)}, infinity},
		{"a sum that is just not", impl.Field{E: list(0x1p63), X: list(0x1p63), Y: list(0x1p63)}, 3 * 0x1p126},
		{"the greatest numbers", impl.Field{E: repeated[float32](math.MaxFloat32, 9), X: none, Y: none}, infinity},
		{"squares that are too small", impl.Field{E: list(least, least), X: none, Y: none}, 0},
		{"small squares together", impl.Field{E: list(0x1p-75), X: none, Y: list(-0x1p-75)}, least},
		{"an infinity", impl.Field{E: none, X: list(0, -infinity), Y: none}, infinity},
		{"a not-a-number", impl.Field{E: list(infinity), X: none, Y: list(numberOf(0xff800001))}, notANumber},
	}
	for _, c := range cases {
		got, ok := impl.EnergyOf(s, c.f)
		isSum(t, c.what, got, ok, c.want)
	}
}

func TestEnergyOfAllNumbers(t *testing.T) {
	source := numbers{35}
	eachShape(func(wide, high int64, wrap bool) {
		s := anySheet(&source, wide, high, wrap)
		f := anyField(&source, s, ordinary)
		sum := 0.0
		for _, list := range listsOf(f) {
			for _, x := range list {
				sum += float64(x) * float64(x)
			}
		}
		got, ok := impl.EnergyOf(s, f)
		isSum(t, "EnergyOf", got, ok, float32(sum))
	})
}

func TestPeakOf(t *testing.T) {
	s := blankSheet(3, 3, true)
	cases := []struct {
		what string
		e    []float32
		at   int64
		want float32
	}{
		{"zeros", make([]float32, 9), 0, 0},
		{"zeros with signs", []float32{negativeZero, 0, 0, negativeZero, 0, 0, 0, 0, 0}, 0, negativeZero},
		{"a number greater than 0", []float32{1, 2, 3, 4, 5, 9, 8, 7, 6}, 5, 9},
		{"a number less than 0", []float32{1, 2, 3, 4, 5, -9, 8, 7, 6}, 5, -9},
		{"the first one", []float32{9, 2, 3, 4, 5, 1, 8, 7, 6}, 0, 9},
		{"the last one", []float32{8, 2, 3, 4, 5, 1, 8, 7, -9}, 8, -9},
		{"equal ones", []float32{1, 3, 3, 3, 0, 0, 0, 0, 0}, 1, 3},
		{"equal absolute values", []float32{1, 2, -3, 3, 3, -3, 0, 0, 0}, 2, -3},
		{"equal ones, less than 0 later", []float32{1, 2, 3, -3, 3, -3, 0, 0, 0}, 2, 3},
		{"the least ones", []float32{0, 0, -least, least, 0, 0, 0, 0, 0}, 2, -least},
		{"neighbours", []float32{1, numberOf(0x3f800001), numberOf(0xbf800002), 1, 1, 1, 1, 1, 1}, 2, numberOf(0xbf800002)},
		{"infinities", []float32{3e38, -infinity, infinity, 1, 1, 1, 1, 1, 1}, 1, -infinity},
		{"a not-a-number first", []float32{notANumber, 0, 1, -2, 1, 0, 0, 0, 0}, 3, -2},
		{"a not-a-number later", []float32{0, 0, 1, -2, notANumber, 0, 0, 0, notANumber}, 3, -2},
		{"only one number", append(repeated(numberOf(0xff800001), 8), negativeZero), 8, negativeZero},
	}
	for _, c := range cases {
		f := impl.Field{E: c.e, X: repeated[float32](100, 9), Y: repeated(-infinity, 9)}
		at, got, ok := impl.PeakOf(s, f)
		is(t, c.what, told(at, got, ok), told(c.at, c.want, true))
	}
}

func TestPeakOfNoNumbers(t *testing.T) {
	s := blankSheet(3, 4, true)
	for _, x := range someNotANumbers {
		f := impl.Field{E: repeated(x, 12), X: repeated[float32](1, 12), Y: repeated[float32](2, 12)}
		at, got, ok := impl.PeakOf(s, f)
		is(t, "PeakOf", told(at, got, ok), told(int64(0), float32(0), false))
	}
}

func TestPeakOfEachCell(t *testing.T) {
	eachShape(func(wide, high int64, wrap bool) {
		s := blankSheet(wide, high, wrap)
		for i := range s.Speeds {
			if free, _, _ := isFree(s, int64(i)%wide, int64(i)/wide); !free {
				continue
			}
			f := blankField(s)
			f.E[i] = -0.5
			at, got, ok := impl.PeakOf(s, f)
			is(t, "PeakOf", told(at, got, ok), told(int64(i), float32(-0.5), true))
		}
	})
}
