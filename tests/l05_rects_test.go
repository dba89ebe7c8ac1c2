package tests

import (
	"fmt"
	"math"
	"testing"

	"loop.example/g01201/impl"
)

func TestLimitOfSlits(t *testing.T) {
	is(t, "MaxSlits", impl.MaxSlits, maxSlits)
}

func TestRectsOfSmallSheets(t *testing.T) {
	for _, side := range [][2]int64{{3, 3}, {4, 3}, {3, 5}} {
		for _, wrap := range []bool{false, true} {
			s := blankSheet(side[0], side[1], wrap)
			for x := int64(-2); x <= s.Wide+1; x++ {
				for y := int64(-2); y <= s.High+1; y++ {
					for wide := int64(-2); wide <= s.Wide+2; wide++ {
						for high := int64(-2); high <= s.High+2; high++ {
							r := impl.Rect{X: x, Y: y, Wide: wide, High: high}
							want := wide >= 1 && high >= 1 && x >= 0 && y >= 0 && x+wide <= s.Wide && y+high <= s.High
							is(t, fmt.Sprint("IsRect ", side, wrap, r), impl.IsRect(s, r), want)
						}
					}
				}
			}
		}
	}
}

func TestRectsOfAllShapes(t *testing.T) {
	eachShape(func(wide, high int64, wrap bool) {
		s := blankSheet(wide, high, wrap)
		for _, r := range someRects(s) {
			is(t, fmt.Sprint("IsRect ", wide, high, wrap, r), impl.IsRect(s, r), true)
			for _, by := range []impl.Rect{
				{X: -1 - r.X}, {Y: -1 - r.Y}, {X: wide - r.X}, {Y: high - r.Y}, {Wide: -r.Wide}, {High: -r.High},
				{Wide: wide + 1 - r.X - r.Wide}, {High: high + 1 - r.Y - r.High}, {X: wide + 1 - r.X - r.Wide}, {Y: high + 1 - r.Y - r.High},
			} {
				no := impl.Rect{X: r.X + by.X, Y: r.Y + by.Y, Wide: r.Wide + by.Wide, High: r.High + by.High}
				is(t, fmt.Sprint("IsRect ", wide, high, wrap, no), impl.IsRect(s, no), false)
			}
		}
	})
}

func TestRectsThatAreRefused(t *testing.T) {
	for _, wrap := range []bool{false, true} {
		c := plainScene(4, 5, wrap, 0.5, 0)
		for _, r := range noRects() {
			refusesRect(t, fmt.Sprint(wrap, r), c, r)
		}
	}
}

func TestRectsRequireSheets(t *testing.T) {
	for _, wrap := range []bool{false, true} {
		for n, bad := range badSheets(wrap) {
			for _, r := range []impl.Rect{{}, {Wide: 1, High: 1}, {X: 1, Y: 1, Wide: 1, High: 1}, {Wide: 4, High: 5}, {Wide: bad.Wide, High: bad.High}} {
				refusesRect(t, fmt.Sprint("of no sheet ", n, r), scene{bad, blankField(blankSheet(4, 5, wrap))}, r)
			}
		}
	}
}

// All numbers are valid in one of these cells, and none elsewhere.
func TestFillingOfARect(t *testing.T) {
	for _, wrap := range []bool{false, true} {
		s := plainScene(4, 3, wrap, 0.5, 0.125).s
		got, ok := impl.FillRect(s, impl.Rect{X: 1, Y: 1, Wide: 3, High: 2}, 0.25, 1)
		want := copySheet(s)
		want.Speeds = []float32{0.5, 0.5, 0.5, 0.5, 0.5, 0.25, 0.25, 0.25, 0.5, 0.25, 0.25, 0.25}
		want.Losses = []float32{0.125, 0.125, 0.125, 0.125, 0.125, 1, 1, 1, 0.125, 1, 1, 1}
		isSheet(t, "FillRect up to the corner", got, ok, want)
		got, ok = impl.FillRect(s, impl.Rect{X: 2, Wide: 1, High: 3}, 0, negativeZero)
		want.Speeds = []float32{0.5, 0.5, 0, 0.5, 0.5, 0.5, 0, 0.5, 0.5, 0.5, 0, 0.5}
		want.Losses = []float32{0.125, 0.125, negativeZero, 0.125, 0.125, 0.125, negativeZero, 0.125, 0.125, 0.125, negativeZero, 0.125}
		isSheet(t, "FillRect of a column", got, ok, want)
		got, ok = impl.FillRect(s, impl.Rect{Y: 2, Wide: 4, High: 1}, negativeZero, 0)
		want.Speeds = []float32{0.5, 0.5, 0.5, 0.5, 0.5, 0.5, 0.5, 0.5, negativeZero, negativeZero, negativeZero, negativeZero}
		want.Losses = []float32{0.125, 0.125, 0.125, 0.125, 0.125, 0.125, 0.125, 0.125, 0, 0, 0, 0}
		isSheet(t, "FillRect of the last row", got, ok, want)
	}
}

// isFilled checks a rect that is filled and one that is cleared.
func isFilled(t *testing.T, c scene, r impl.Rect, speed, loss float32) {
	t.Helper()
	what := fmt.Sprint(c.s.Wide, c.s.High, c.s.Wrap, r, speed, loss)
	marks := cellsOf(c.s, r)
	s, ok := impl.FillRect(c.s, r, speed, loss)
	want := copySheet(c.s)
	want.Speeds, want.Losses = markedWith(c.s.Speeds, marks, speed), markedWith(c.s.Losses, marks, loss)
	isSheet(t, "FillRect "+what, s, ok, want)
	f, ok := impl.ClearRect(c.s, c.f, r)
	isField(t, "ClearRect "+what, f, ok, impl.Field{
		E: markedWith(c.f.E, marks, 0), X: markedWith(c.f.X, marks, 0), Y: markedWith(c.f.Y, marks, 0),
	})
	is(t, "what is made is valid", impl.ValidSheet(s) && impl.IsField(c.s, f) && impl.IsField(s, c.f), true)
}

func TestFillingAndClearingOfAllRects(t *testing.T) {
	source := numbers{160}
	for _, side := range [][2]int64{{3, 3}, {6, 4}, {4, 6}, {5, 5}} {
		for _, wrap := range []bool{false, true} {
			c := anyScene(&source, side[0], side[1], wrap, special)
			eachRect(c.s, func(r impl.Rect) {
				isFilled(t, c, r, picked(&source, someSpeeds), picked(&source, someLosses))
			})
		}
	}
}

func TestFillingAndClearingOfAllShapes(t *testing.T) {
	source := numbers{161}
	for _, number := range someKinds {
		eachScene(162, number, func(c scene) {
			isFilled(t, c, picked(&source, someRects(c.s)), picked(&source, someSpeeds), picked(&source, someLosses))
			isFilled(t, c, anyRect(&source, c.s), part(&source)/2, part(&source))
		})
	}
}

func TestFillingWithNumbersAtTheLimits(t *testing.T) {
	for _, wrap := range []bool{false, true} {
		c := plainScene(4, 5, wrap, 0.25, 0.5)
		r := impl.Rect{X: 1, Y: 2, Wide: 2, High: 2}
		for _, speed := range someSpeeds {
			for _, loss := range someLosses {
				isFilled(t, c, r, speed, loss)
			}
			for _, loss := range noLosses {
				s, ok := impl.FillRect(c.s, r, speed, loss)
				isNoSheet(t, fmt.Sprint("FillRect ", speed, loss), s, ok)
			}
		}
		for _, speed := range noSpeeds {
			for _, loss := range append(append([]float32{}, someLosses...), noLosses...) {
				s, ok := impl.FillRect(c.s, r, speed, loss)
				isNoSheet(t, fmt.Sprint("FillRect ", speed, loss), s, ok)
			}
		}
	}
}

func TestClearingOfEachNumber(t *testing.T) {
	c := plainScene(3, 4, true, 0.5, 0)
	for _, bits := range specialBits {
		for k := range 3 {
			for i := range c.s.Speeds {
				f := blankField(c.s)
				listsOf(f)[k][i] = numberOf(bits)
				at := impl.Rect{X: int64(i % 3), Y: int64(i / 3), Wide: 1, High: 1}
				got, ok := impl.ClearRect(c.s, f, at)
				isField(t, fmt.Sprint("ClearRect of ", k, i, bits), got, ok, c.f)
				beside := impl.Rect{X: (at.X + 1) % 3, Y: at.Y, Wide: 1, High: 1}
				got, ok = impl.ClearRect(c.s, f, beside)
				isField(t, fmt.Sprint("ClearRect beside ", k, i, bits), got, ok, f)
			}
		}
	}
}

// Zeros of the border become +0 within a rect alone.
func TestClearingOfTheBorder(t *testing.T) {
	c := plainScene(4, 3, false, 0.5, 0)
	for k := range 3 {
		for i := range c.s.Speeds {
			listsOf(c.f)[k][i] = negativeZero
		}
	}
	for _, r := range someRects(c.s) {
		isFilled(t, c, r, 0.5, 0)
	}
	got, ok := impl.ClearRect(c.s, c.f, impl.Rect{Wide: 4, High: 3})
	isField(t, "ClearRect of the whole sheet", got, ok, blankField(c.s))
}

func TestFillingLeavesTheFieldOfTheExample(t *testing.T) {
	c := squareScene(false, map[int]float32{6: 4})
	got, ok := impl.FillRect(c.s, impl.Rect{X: 1, Y: 1, Wide: 2, High: 1}, 0.25, 0.5)
	is(t, "FillRect succeeds", ok, true)
	is(t, "the row", told(got.Speeds[5:10], got.Losses[5:10]), told([]float32{0.5, 0.25, 0.25, 0.5, 0.5}, []float32{0, 0.5, 0.5, 0, 0}))
	f, ok := impl.ClearRect(c.s, c.f, impl.Rect{X: 1, Y: 1, Wide: 1, High: 1})
	isField(t, "ClearRect", f, ok, blankField(c.s))
}

func TestRectsOfFieldsThatAreNone(t *testing.T) {
	for n, c := range withoutField() {
		refusesField(t, fmt.Sprint("of no field ", n), scene{c.s, c.f})
	}
	for _, wrap := range []bool{false, true} {
		other := blankField(blankSheet(5, 4, wrap))
		short := impl.Field{E: other.E, X: other.X, Y: other.Y[:19]}
		refusesField(t, "of another sheet", scene{blankSheet(5, 5, wrap), other})
		refusesField(t, "with one number less", scene{blankSheet(5, 4, wrap), short})
		refusesField(t, "without numbers", scene{blankSheet(5, 4, wrap), impl.Field{}})
	}
	for _, x := range []float32{1, least, infinity, notANumber} {
		c := plainScene(4, 3, false, 0.5, 0).with(map[int]float32{0: x})
		refusesField(t, fmt.Sprint("with ", x, " in the border"), c)
	}
	refusesField(t, "of no sheet at all", scene{impl.Sheet{Wide: math.MaxInt64, High: math.MaxInt64}, impl.Field{}})
}
