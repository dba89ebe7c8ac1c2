package tests

import (
	"fmt"
	"math"
	"testing"

	"loop.example/g01201/impl"
)

// Each row that is wanted here has been counted by hand.
func TestDepthsOfSomeSheets(t *testing.T) {
	for _, wrap := range []bool{false, true} {
		for _, c := range []struct {
			wide, high int64
			want       [][]int64
		}{
			{3, 3, [][]int64{{0, 0, 0}, {0, 1, 0}, {0, 0, 0}}},
			{4, 3, [][]int64{{0, 0, 0, 0}, {0, 1, 1, 0}, {0, 0, 0, 0}}},
			{5, 5, [][]int64{{0, 0, 0, 0, 0}, {0, 1, 1, 1, 0}, {0, 1, 2, 1, 0}, {0, 1, 1, 1, 0}, {0, 0, 0, 0, 0}}},
			{6, 5, [][]int64{{0, 0, 0, 0, 0, 0}, {0, 1, 1, 1, 1, 0}, {0, 1, 2, 2, 1, 0}, {0, 1, 1, 1, 1, 0}, {0, 0, 0, 0, 0, 0}}},
			{3, 4, [][]int64{{0, 0, 0}, {0, 1, 0}, {0, 1, 0}, {0, 0, 0}}},
			{4, 4, [][]int64{{0, 0, 0, 0}, {0, 1, 1, 0}, {0, 1, 1, 0}, {0, 0, 0, 0}}},
		} {
			s := blankSheet(c.wide, c.high, wrap)
			eachCell(s, func(x, y int64) {
				got, ok := impl.DepthOf(s, x, y)
				is(t, fmt.Sprint("DepthOf ", c.wide, c.high, wrap, x, y), told(got, ok), told(c.want[y][x], true))
			})
		}
		s := blankSheet(16, 16, wrap)
		for n, want := range []int64{0, 1, 2, 3, 4, 5, 6, 7, 7, 6, 5, 4, 3, 2, 1, 0} {
			for _, at := range [][2]int64{{int64(n), int64(n)}, {int64(n), 7}, {8, int64(n)}, {int64(n), 15 - int64(n)}} {
				got, ok := impl.DepthOf(s, at[0], at[1])
				is(t, fmt.Sprint("DepthOf ", at), told(got, ok), told(want, true))
			}
		}
	}
}

func TestDepthsOfAllShapes(t *testing.T) {
	source := numbers{170}
	eachShape(func(wide, high int64, wrap bool) {
		s := anySheet(&source, wide, high, wrap)
		greatest := int64(0)
		eachCell(s, func(x, y int64) {
			got, ok := impl.DepthOf(s, x, y)
			is(t, fmt.Sprint("DepthOf ", wide, high, wrap, x, y), told(got, ok), told(depthIn(s, x, y), true))
			greatest = max(greatest, got)
		})
		is(t, "the greatest depth", greatest, (min(wide, high)-1)/2)
	})
}

func TestDepthsOutsideTheSheet(t *testing.T) {
	for _, wrap := range []bool{false, true} {
		for _, at := range someOutside {
			got, ok := impl.DepthOf(blankSheet(4, 5, wrap), at[0], at[1])
			is(t, fmt.Sprint("DepthOf ", at), told(got, ok), told(int64(0), false))
		}
		for n, bad := range badSheets(wrap) {
			for _, at := range [][2]int64{{0, 0}, {1, 1}, {bad.Wide / 2, bad.High / 2}} {
				got, ok := impl.DepthOf(bad, at[0], at[1])
				is(t, fmt.Sprint("DepthOf of no sheet ", n, at), told(got, ok), told(int64(0), false))
			}
		}
	}
}

func TestExamplesOfBorders(t *testing.T) {
	for _, wrap := range []bool{false, true} {
		s := squareScene(wrap, nil).s
		depth, ok := impl.DepthOf(s, 2, 2)
		is(t, "DepthOf", told(depth, ok), told(int64(2), true))
		got, ok := impl.GradeLosses(s, 2, 0.5)
		want := copySheet(s)
		h, e := float32(0.5), float32(0.125)
		want.Losses = []float32{h, h, h, h, h, h, e, e, e, h, h, e, 0, e, h, h, e, e, e, h, h, h, h, h, h}
		isSheet(t, "GradeLosses", got, ok, want)
	}
}

// oneLoss grades the loss of a cell with a depth in a sheet 16 wide and 15 high.
func oneLoss(t *testing.T, loss float32, depth, width int64, most float32) float32 {
	t.Helper()
	s := blankSheet(16, 15, depth%2 == 0)
	s.Losses[depth+16*7] = loss
	got, ok := impl.GradeLosses(s, width, most)
	is(t, "GradeLosses succeeds", ok, true)
	return got.Losses[depth+16*7]
}

// Each number that is wanted here has been computed by hand.
func TestGradedLosses(t *testing.T) {
	third := float32(1) / 3
	for _, c := range []struct {
		what         string
		loss         float32
		depth, width int64
		most, want   float32
	}{
		{"the whole of most", 0, 0, 1, 0.5, 0.5},
		{"no cell that is deeper", 0.25, 1, 1, 0.5, 0.25},
		{"a quarter of most", 0.25, 1, 2, 0.5, 0.375},
		{"nine sixteenths of most", 0, 1, 4, 1, 0.5625},
		{"one sixteenth of most", 0, 3, 4, 1, 0.0625},
		{"just not in the border", 0.5, 4, 4, 1, 0.5},
		{"the greatest width", 0, 0, 16, 0.75, 0.75},
		{"the greatest width and depth", 0, 7, 16, 1, 0.31640625},
		{"a width of 15", 0, 0, 15, 1, 1},
		{"most 0", 0.3, 0, 4, 0, 0.3},
		{"most -0", 0.3, 0, 4, negativeZero, 0.3},
		{"most 1", 0, 0, 4, 1, 1},
		{"most 1 and a loss of 1", 1, 0, 4, 1, 1},
		{"a loss of 1", 1, 3, 4, 0.5, 1},
		{"a loss of 1 and most 0", 1, 3, 4, 0, 1},
		{"a loss of 1 that is not graded", 1, 5, 4, 1, 1},
		{"a sum of 1", 0.5, 0, 4, 0.5, 1},
		{"a sum greater than 1", 0.75, 0, 4, 0.5, 1},
		{"a sum just less than 1", 0x1p-24, 0, 1, 1 - 0x1p-23, 1 - 0x1p-24},
		{"a sum just greater than 1", 1 - 0x1p-24, 0, 1, 0x1p-23, 1},
		{"a sum that is rounded to 1", 1 - 0x1p-24, 0, 1, 0x1p-26, 1 - 0x1p-24},
		{"the least loss", least, 0, 1, 0, least},
		{"the least numbers", least, 0, 1, least, 2 * least},
		{"what becomes too small", 0, 1, 2, least, 0},
		{"what is just not too small", 0, 1, 2, 3 * least, least},
		{"zeros", 0, 1, 2, 0, 0},
		{"zeros with signs", negativeZero, 1, 2, negativeZero, negativeZero},
		{"a loss of -0", negativeZero, 1, 2, 0, 0},
		{"most of -0", 0, 1, 2, negativeZero, 0},
		{"a loss of -0 that is not graded", negativeZero, 2, 2, 0.5, negativeZero},
		{"two thirds", 0, 1, 3, 1, float32(2 * third * (2 * third))},
		{"one third", 0, 2, 3, 1, float32(third * third)},
	} {
		isNumber(t, c.what, oneLoss(t, c.loss, c.depth, c.width, c.most), c.want)
	}
}

// g is squared before it is multiplied, and each product is rounded: with g as
// it stands first, or with more bits, some of these losses would be others.
func TestRoundingOfGradedLosses(t *testing.T) {
	differs := map[string]int{}
	for width := int64(3); width <= maxSide; width++ {
		for depth := int64(0); depth < min(width, 8); depth++ {
			for _, most := range []float32{0.1, 0.3, 0.7, 0.9, 0.99} {
				for _, loss := range []float32{0, 0.003, 0.01, 0.1} {
					g := float32(width-depth) / float32(width)
					product := float32(most * float32(g*g))
					got := oneLoss(t, loss, depth, width, most)
					isNumber(t, fmt.Sprint("a loss ", depth, width, most, loss), got, min(loss+product, 1))
					long := float64(width-depth) / float64(width)
					for what, other := range map[string]float32{
						"g first":     loss + float32(float32(most*g)*g),
						"long g":      loss + float32(float64(most)*long*long),
						"long square": loss + float32(float64(most)*float64(g)*float64(g)),
						"long sum":    float32(float64(loss) + float64(most)*float64(float32(g*g))),
						"integers":    loss + most*(float32((width-depth)*(width-depth))/float32(width*width)),
					} {
						if bitsOf(other) != bitsOf(got) {
							differs[what]++
						}
					}
				}
			}
		}
	}
	is(t, "how many other ways there are", len(differs), 5)
}

func TestGradedSheetsOfAllShapes(t *testing.T) {
	source := numbers{171}
	eachShape(func(wide, high int64, wrap bool) {
		s := anySheet(&source, wide, high, wrap)
		for _, width := range []int64{1, 2, 1 + below(&source, maxSide), (min(wide, high)-1)/2 + 1, maxSide} {
			for _, most := range []float32{0, picked(&source, someLosses), part(&source), 1} {
				got, ok := impl.GradeLosses(s, width, most)
				isSheet(t, fmt.Sprint("GradeLosses ", wide, high, wrap, width, most), got, ok, graded(s, width, most))
			}
		}
	})
}

func TestWidthsAndDepthsOfGradedSheets(t *testing.T) {
	for _, side := range [][2]int64{{3, 3}, {16, 16}, {16, 3}, {3, 16}, {15, 16}, {7, 8}} {
		for _, wrap := range []bool{false, true} {
			s := blankSheet(side[0], side[1], wrap)
			for width := int64(1); width <= maxSide; width++ {
				got, ok := impl.GradeLosses(s, width, 1)
				is(t, "GradeLosses succeeds", ok, true)
				eachCell(s, func(x, y int64) {
					loss := got.Losses[x+s.Wide*y]
					is(t, fmt.Sprint("what is graded ", side, wrap, width, x, y), loss > 0, depthIn(s, x, y) < width)
				})
			}
		}
	}
}

func TestLossesThatAreNotGraded(t *testing.T) {
	for _, wrap := range []bool{false, true} {
		c := plainScene(4, 5, wrap, 0.5, 0.25)
		for _, width := range noWidths {
			refusesWidth(t, fmt.Sprint(width, wrap), c, width)
		}
		for _, most := range noLosses {
			for _, width := range []int64{1, 2, maxSide, 0, maxSide + 1} {
				s, ok := impl.GradeLosses(c.s, width, most)
				isNoSheet(t, fmt.Sprint("GradeLosses ", width, most), s, ok)
			}
		}
		for n, bad := range badSheets(wrap) {
			for _, width := range []int64{1, maxSide} {
				refusesWidth(t, fmt.Sprint("of no sheet ", n), scene{bad, c.f}, width)
			}
		}
	}
}

func TestRampOfASmallField(t *testing.T) {
	for _, wrap := range []bool{false, true} {
		c := squareScene(wrap, map[int]float32{6: 4, 7: -8, 12: 3, 18: 1})
		for width, e := range map[int64][4]float32{
			1: {4, -8, 3, 1}, 2: {2, -4, 3, 0.5}, 4: {1, -2, 1.5, 0.25}, maxSide: {0.25, -0.5, 0.375, 0.0625},
		} {
			got, ok := impl.RampField(c.s, c.f, width)
			want := c.with(map[int]float32{6: e[0], 7: e[1], 12: e[2], 18: e[3]})
			isField(t, fmt.Sprint("RampField ", wrap, width), got, ok, want.f)
		}
	}
}

// oneRamped ramps one number with a depth in a sheet 16 wide and 15 high.
func oneRamped(t *testing.T, e float32, depth, width int64, wrap bool) float32 {
	t.Helper()
	c := scene{s: blankSheet(16, 15, wrap)}
	c.f = impl.Field{E: make([]float32, 240), X: make([]float32, 240), Y: make([]float32, 240)}
	c.f.E[depth+16*7], c.f.X[depth+16*7], c.f.Y[depth+16*7] = e, 5, -7
	got, ok := impl.RampField(c.s, c.f, width)
	is(t, "RampField succeeds", ok, true)
	is(t, "X and Y stay", told(got.X, got.Y), told(c.f.X, c.f.Y))
	return got.E[depth+16*7]
}

// Each number that is wanted here has been computed by hand.
func TestRampedNumbers(t *testing.T) {
	for _, c := range []struct {
		what         string
		e            float32
		depth, width int64
		want         float32
	}{
		{"a half", 3, 1, 2, 1.5},
		{"less than 0", -3, 1, 2, -1.5},
		{"three quarters", 8, 3, 4, 6},
		{"as deep as the width", 8, 4, 4, 8},
		{"deeper than the width", 8, 7, 4, 8},
		{"the greatest width", 16, 7, 16, 7},
		{"+0", 0, 1, 2, 0},
		{"-0", negativeZero, 1, 2, negativeZero},
		{"an infinity", infinity, 1, 2, infinity},
		{"an infinity less than 0", -infinity, 1, 2, -infinity},
		{"a not-a-number", notANumber, 1, 2, notANumber},
		{"a not-a-number that is deep", notANumber, 2, 2, notANumber},
		{"the least number", least, 1, 2, 0},
		{"the least number less than 0", -least, 1, 2, negativeZero},
		{"three of the least", 3 * least, 1, 2, 2 * least},
		{"the greatest number", math.MaxFloat32, 1, 2, math.MaxFloat32 / 2},
		// A third and a fifth are rounded upwards, and so are some products with them.
		{"three thirds", 3, 1, 3, 1},
		{"a third is rounded first", 5, 1, 3, numberOf(0x3fd55556)},
		{"two thirds are rounded first", -7, 2, 3, numberOf(0xc0955556)},
		{"a fifth is rounded first", 9, 1, 5, numberOf(0x3fe66667)},
	} {
		for _, wrap := range []bool{false, true} {
			isNumber(t, "RampField of "+c.what, oneRamped(t, c.e, c.depth, c.width, wrap), c.want)
		}
	}
}

// The quotient comes first: with the product first, some numbers would be others.
func TestRoundingOfRampedNumbers(t *testing.T) {
	source := numbers{172}
	differs := 0
	for width := int64(2); width <= maxSide; width++ {
		for depth := int64(1); depth < min(width, 8); depth++ {
			for range 5 {
				e := near(&source) * 100
				got := oneRamped(t, e, depth, width, width%2 == 0)
				isNumber(t, fmt.Sprint("RampField ", e, depth, width), got, e*(float32(depth)/float32(width)))
				if got != float32(e*float32(depth))/float32(width) {
					differs++
				}
			}
		}
	}
	is(t, "the product first makes other numbers", differs > 20, true)
}

// With Wrap, any numbers can be where the depth is 0.
func TestRampedNumbersInTheBorder(t *testing.T) {
	for _, c := range []struct{ e, want float32 }{
		{5, 0}, {-5, negativeZero}, {0, 0}, {negativeZero, negativeZero}, {least, 0}, {-math.MaxFloat32, negativeZero},
		{infinity, notANumber}, {-infinity, notANumber}, {notANumber, notANumber}, {numberOf(0xff800001), notANumber},
	} {
		for _, width := range []int64{1, 2, 7, maxSide} {
			isNumber(t, fmt.Sprint("RampField of ", c.e, " in the border"), oneRamped(t, c.e, 0, width, true), c.want)
		}
	}
	c := plainScene(4, 3, false, 0.5, 0)
	for i := range 12 {
		c.f.E[i] = picked(&numbers{uint64(i)}, []float32{0, negativeZero})
	}
	for _, width := range []int64{1, 2, maxSide} {
		got, ok := impl.RampField(c.s, c.f, width)
		isField(t, "RampField of zeros in a wall", got, ok, c.f)
	}
}

func TestRampsOfAllShapes(t *testing.T) {
	source := numbers{173}
	for kind, number := range someKinds {
		eachScene(174, number, func(c scene) {
			for _, width := range []int64{1, 2, 1 + below(&source, maxSide), (min(c.s.Wide, c.s.High)-1)/2 + 1, maxSide} {
				got, ok := impl.RampField(c.s, c.f, width)
				isField(t, fmt.Sprint("RampField ", kind, c.s.Wide, c.s.High, c.s.Wrap, width), got, ok, c.ramped(width))
				is(t, "a ramped field is a field", impl.IsField(c.s, got), true)
			}
		})
	}
}
