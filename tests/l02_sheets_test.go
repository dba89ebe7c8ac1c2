package tests

import (
	"fmt"
	"math"
	"testing"

	"loop.example/g01201/impl"
)

func TestLimitsOfSheets(t *testing.T) {
	is(t, "MaxSide", impl.MaxSide, maxSide)
	is(t, "MaxCells", impl.MaxCells, maxCells)
}

func TestValidSheetOfSides(t *testing.T) {
	for wide := int64(0); wide <= 20; wide++ {
		for high := int64(0); high <= 20; high++ {
			want := wide >= 3 && wide <= 16 && high >= 3 && high <= 16
			for _, wrap := range []bool{false, true} {
				what := fmt.Sprint(wide, " ", high, " ", wrap)
				is(t, "ValidSheet "+what, impl.ValidSheet(blankSheet(wide, high, wrap)), want)
				s, ok := impl.PlainSheet(wide, high, wrap, 0)
				if want {
					isSheet(t, "PlainSheet "+what, s, ok, blankSheet(wide, high, wrap))
				} else {
					isNoSheet(t, "PlainSheet "+what, s, ok)
				}
			}
		}
	}
}

func TestSheetsWithOtherSides(t *testing.T) {
	sides := [][2]int64{
		{2, 3}, {3, 2}, {2, 128}, {128, 2}, {1, 256}, {256, 1}, {17, 15}, {15, 17}, {3, 17}, {17, 3},
		{3, 85}, {85, 3}, {3, 86}, {86, 3}, {16, 17}, {17, 16}, {17, 17},
		{-3, -3}, {-16, -16}, {-3, 3}, {3, -3}, {0, 3}, {3, 0},
		{1 << 32, 1 << 32}, {3, 1 << 62}, {1 << 62, 4}, {16, 1<<60 + 16}, {1<<60 + 16, 16},
		{math.MinInt64, math.MinInt64}, {math.MaxInt64, math.MaxInt64}, {math.MinInt64, 16}, {3, math.MaxInt64},
	}
	for _, side := range sides {
		wide, high := side[0], side[1]
		// The product as it overflows is the number of cells that a careless
		// program expects.
		n := wide * high
		if n < 0 || n > 1000 {
			n = 9
		}
		for _, wrap := range []bool{false, true} {
			what := fmt.Sprint(wide, " ", high, " ", wrap)
			s := impl.Sheet{Wide: wide, High: high, Wrap: wrap, Speeds: make([]float32, n), Losses: make([]float32, n)}
			is(t, "ValidSheet "+what, impl.ValidSheet(s), false)
			got, ok := impl.PlainSheet(wide, high, wrap, 0.5)
			isNoSheet(t, "PlainSheet "+what, got, ok)
		}
	}
}

func TestValidSheetOfLengths(t *testing.T) {
	for _, side := range [][2]int64{{3, 3}, {3, 5}, {16, 3}, {16, 16}} {
		n := int(side[0] * side[1])
		for _, speeds := range []int{0, 1, n - 1, n, n + 1, 2 * n} {
			for _, losses := range []int{0, 1, n - 1, n, n + 1, 2 * n} {
				s := impl.Sheet{Wide: side[0], High: side[1], Speeds: make([]float32, speeds), Losses: make([]float32, losses)}
				want := speeds == n && losses == n
				is(t, fmt.Sprint("ValidSheet ", n, " ", speeds, " ", losses), impl.ValidSheet(s), want)
			}
		}
	}
}

var (
	someSpeeds = []float32{0, negativeZero, least, 0.25, numberOf(0x3effffff), 0.5}
	noSpeeds   = append([]float32{
		-least, -0.25, numberOf(0x3f000001), 0.75, 1, 2, math.MaxFloat32, -math.MaxFloat32, infinity, -infinity,
	}, someNotANumbers...)
	someLosses = []float32{0, negativeZero, least, 0.5, numberOf(0x3f000001), numberOf(0x3f7fffff), 1}
	noLosses   = append([]float32{
		-least, -0.5, -1, numberOf(0x3f800001), 2, math.MaxFloat32, infinity, -infinity,
	}, someNotANumbers...)
)

func TestValidSheetOfEachSpeedAndLoss(t *testing.T) {
	for i := range 20 {
		for _, wrap := range []bool{false, true} {
			s := blankSheet(4, 5, wrap)
			isValidWith(t, fmt.Sprint("speed ", i), s, &s.Speeds[i], someSpeeds, true)
			isValidWith(t, fmt.Sprint("speed ", i), s, &s.Speeds[i], noSpeeds, false)
			isValidWith(t, fmt.Sprint("loss ", i), s, &s.Losses[i], someLosses, true)
			isValidWith(t, fmt.Sprint("loss ", i), s, &s.Losses[i], noLosses, false)
		}
	}
}

// isValidWith puts each of some numbers in a place of a sheet, and a 0 in the end.
func isValidWith(t *testing.T, what string, s impl.Sheet, place *float32, list []float32, want bool) {
	t.Helper()
	for _, x := range list {
		*place = x
		is(t, what+" "+wordOf(x), impl.ValidSheet(s), want)
	}
	*place = 0
}

func TestPlainSheetOfSpeeds(t *testing.T) {
	for _, speed := range someSpeeds {
		s, ok := impl.PlainSheet(4, 3, true, speed)
		want := impl.Sheet{Wide: 4, High: 3, Wrap: true, Speeds: repeated(speed, 12), Losses: make([]float32, 12)}
		isSheet(t, "PlainSheet "+wordOf(speed), s, ok, want)
		is(t, "a plain sheet is valid", impl.ValidSheet(s), true)
	}
	for _, speed := range noSpeeds {
		s, ok := impl.PlainSheet(4, 3, true, speed)
		isNoSheet(t, "PlainSheet "+wordOf(speed), s, ok)
	}
}

func TestPlainSheetOfAllShapes(t *testing.T) {
	eachShape(func(wide, high int64, wrap bool) {
		s, ok := impl.PlainSheet(wide, high, wrap, 0.5)
		want := blankSheet(wide, high, wrap)
		want.Speeds = repeated[float32](0.5, int(wide*high))
		isSheet(t, "PlainSheet", s, ok, want)
	})
}

func TestSameSheetOfEachPart(t *testing.T) {
	source := numbers{20}
	s := anySheet(&source, 4, 3, false)
	s.Speeds[2], s.Losses[3] = 0, 1
	is(t, "a copy", impl.SameSheet(s, copySheet(s)), true)
	changes := map[string]func(c *impl.Sheet){
		"Wide":               func(c *impl.Sheet) { c.Wide++ },
		"High":               func(c *impl.Sheet) { c.High-- },
		"sides exchanged":    func(c *impl.Sheet) { c.Wide, c.High = c.High, c.Wide },
		"Wrap":               func(c *impl.Sheet) { c.Wrap = true },
		"a zero with a sign": func(c *impl.Sheet) { c.Speeds[2] = negativeZero },
		"the next number":    func(c *impl.Sheet) { c.Losses[3] = numberOf(0x3f7fffff) },
		"fewer speeds":       func(c *impl.Sheet) { c.Speeds = c.Speeds[:11] },
		"more speeds":        func(c *impl.Sheet) { c.Speeds = append(c.Speeds, 0) },
		"fewer losses":       func(c *impl.Sheet) { c.Losses = c.Losses[:11] },
		"more losses":        func(c *impl.Sheet) { c.Losses = append(c.Losses, 0) },
		"no speeds":          func(c *impl.Sheet) { c.Speeds = nil },
		"lists exchanged":    func(c *impl.Sheet) { c.Speeds, c.Losses = c.Losses, c.Speeds },
	}
	for what, change := range changes {
		c := copySheet(s)
		change(&c)
		is(t, what, impl.SameSheet(s, c), false)
		is(t, what+", the other way round", impl.SameSheet(c, s), false)
		is(t, what+" in both", impl.SameSheet(c, copySheet(c)), true)
	}
	for i := range 12 {
		c := copySheet(s)
		c.Speeds[i] += 0.125
		is(t, "another speed", impl.SameSheet(s, c), false)
		c = copySheet(s)
		c.Losses[i] += 0.125
		is(t, "another loss", impl.SameSheet(s, c), false)
	}
}

func TestSameSheetOfSheetsThatAreNotValid(t *testing.T) {
	a := impl.Sheet{Wide: -5, High: 1 << 62, Speeds: []float32{numberOf(0x7f800001), infinity, 7}}
	b := impl.Sheet{Wide: -5, High: 1 << 62, Speeds: []float32{numberOf(0xffc12345), infinity, 7}, Losses: []float32{}}
	is(t, "not-a-numbers", impl.SameSheet(a, b), true)
	b.Speeds[1] = -infinity
	is(t, "infinities", impl.SameSheet(a, b), false)
	is(t, "no sheets", impl.SameSheet(impl.Sheet{}, impl.Sheet{Speeds: []float32{}, Losses: []float32{}}), true)
	long := impl.Sheet{Losses: repeated[float32](3, 100000)}
	other := copySheet(long)
	is(t, "long lists", impl.SameSheet(long, other), true)
	other.Losses[99999] = 4
	is(t, "long lists that differ", impl.SameSheet(long, other), false)
}
