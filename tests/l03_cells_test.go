package tests

import (
	"fmt"
	"math"
	"slices"
	"testing"

	"loop.example/g01201/impl"
)

func TestReachOfASmallSheet(t *testing.T) {
	walls, joined := blankSheet(5, 4, false), blankSheet(5, 4, true)
	for _, c := range []struct {
		s           impl.Sheet
		x, y, steps int64
		want        []int64
	}{
		{walls, 0, 0, 0, []int64{0}},
		{walls, 0, 0, 1, []int64{0, 1, 5}},
		{walls, 0, 0, 2, []int64{0, 1, 2, 5, 6, 10}},
		{walls, 4, 3, 1, []int64{14, 18, 19}},
		{walls, 2, 1, 1, []int64{2, 6, 7, 8, 12}},
		{walls, 2, 1, 2, []int64{1, 2, 3, 5, 6, 7, 8, 9, 11, 12, 13, 17}},
		{joined, 0, 0, 0, []int64{0}},
		{joined, 0, 0, 1, []int64{0, 1, 4, 5, 15}},
		{joined, 0, 0, 2, []int64{0, 1, 2, 3, 4, 5, 6, 9, 10, 15, 16, 19}},
		{joined, 4, 3, 1, []int64{4, 14, 15, 18, 19}},
		{joined, 2, 1, 1, []int64{2, 6, 7, 8, 12}},
		{joined, 2, 1, 2, []int64{1, 2, 3, 5, 6, 7, 8, 9, 11, 12, 13, 17}},
	} {
		got, ok := impl.ReachOf(c.s, c.x, c.y, c.steps)
		isSet(t, fmt.Sprint("ReachOf ", c.s.Wrap, c.x, c.y, c.steps), got, ok, c.want...)
	}
}

func TestReachIsWhatWaysTell(t *testing.T) {
	source := numbers{80}
	eachShape(func(wide, high int64, wrap bool) {
		s := anySheet(&source, wide, high, wrap)
		isReach := func(at, steps int64) {
			got, ok := impl.ReachOf(s, at%wide, at/wide, steps)
			isSet(t, fmt.Sprint("ReachOf ", wide, high, wrap, at, steps), got, ok, reachedFrom(s, at, steps)...)
		}
		for at := range wide * high {
			isReach(at, int64(source.next()>>33)%5)
		}
		for _, at := range []int64{0, wide - 1, wide * (high - 1), wide*high - 1, int64(source.next()>>33) % (wide * high)} {
			for _, steps := range []int64{0, 1, 2, 3, wide / 2, high / 2, wide/2 + high/2 - 1, wide/2 + high/2, wide + high - 3, wide + high - 2, 30, maxRun} {
				isReach(at, steps)
			}
		}
	})
}

func TestReachWithAllSteps(t *testing.T) {
	for _, wrap := range []bool{false, true} {
		s := blankSheet(16, 15, wrap)
		for steps := range int64(maxRun + 1) {
			for _, at := range []int64{0, 100, 239} {
				got, ok := impl.ReachOf(s, at%16, at/16, steps)
				isSet(t, fmt.Sprint("ReachOf ", wrap, at, steps), got, ok, reachedFrom(s, at, steps)...)
			}
		}
	}
}

func TestReachRequiresSheetsAndCells(t *testing.T) {
	isNoReach := func(what string, s impl.Sheet, x, y, steps int64) {
		t.Helper()
		got, ok := impl.ReachOf(s, x, y, steps)
		is(t, "ReachOf "+what, fmt.Sprint(len(got), ok), "0 false")
	}
	for _, wrap := range []bool{false, true} {
		s := blankSheet(4, 5, wrap)
		for _, c := range [][2]int64{
			{-1, 0}, {0, -1}, {4, 0}, {0, 5}, {4, 5}, {-4, 2}, {8, 2}, {19, 0}, {20, 0}, {5, -1},
			{math.MinInt64, 0}, {0, math.MinInt64}, {math.MaxInt64, 0}, {0, math.MaxInt64}, {0, 1 << 62}, {1 << 62, 3},
		} {
			isNoReach(fmt.Sprint(c), s, c[0], c[1], 0)
			isNoReach(fmt.Sprint(c), s, c[0], c[1], maxRun)
		}
		speed, loss, short := copySheet(s), copySheet(s), copySheet(s)
		speed.Speeds[19], loss.Losses[0], short.Losses = 0.75, notANumber, nil
		for n, bad := range []impl.Sheet{speed, loss, short, {}, blankSheet(2, 5, wrap), blankSheet(17, 5, wrap), {Wide: math.MaxInt64, High: math.MaxInt64, Wrap: wrap}} {
			isNoReach(fmt.Sprint("of no sheet ", n), bad, 1, 1, 0)
			isNoReach(fmt.Sprint("of no sheet ", n), bad, 1, 1, 3)
		}
	}
}

func TestFarCellsOfEachNumber(t *testing.T) {
	for _, wrap := range []bool{false, true} {
		s := blankSheet(4, 3, wrap)
		all := []int64{0, 1, 2, 3, 4, 5, 6, 7, 8, 9, 10, 11}
		got, ok := impl.FarCells(s, blankField(s))
		isSet(t, "FarCells of zeros", got, ok, all...)
		for k := range 3 {
			for i := range all {
				for _, bits := range specialBits {
					f := blankField(s)
					listsOf(f)[k][i] = numberOf(bits)
					if !impl.IsField(s, f) {
						continue
					}
					want := all
					if numberOf(bits) != 0 {
						want = slices.Delete(slices.Clone(all), i, i+1)
					}
					got, ok := impl.FarCells(s, f)
					isSet(t, fmt.Sprint("FarCells ", k, i, bits), got, ok, want...)
				}
			}
		}
	}
}

func TestFarCellsOfZerosWithSigns(t *testing.T) {
	s := blankSheet(3, 3, false)
	f := impl.Field{E: repeated(negativeZero, 9), X: repeated(negativeZero, 9), Y: repeated(negativeZero, 9)}
	got, ok := impl.FarCells(s, f)
	isSet(t, "FarCells", got, ok, 0, 1, 2, 3, 4, 5, 6, 7, 8)
	f.E[4] = 1
	got, ok = impl.FarCells(s, f)
	isSet(t, "FarCells with one number", got, ok, 0, 1, 2, 3, 5, 6, 7, 8)
	s.Wrap = true
	got, ok = impl.FarCells(s, impl.Field{E: repeated[float32](1, 9), X: make([]float32, 9), Y: repeated(notANumber, 9)})
	isSet(t, "FarCells where there are none", got, ok)
}

func TestFarCellsOfAllShapes(t *testing.T) {
	manyZeros := func(source *numbers) float32 {
		return picked(source, []float32{0, 0, 0, negativeZero, negativeZero, special(source)})
	}
	eachScene(81, manyZeros, func(c scene) {
		var want []int64
		for i, x := range c.f.E {
			if x == 0 && c.f.X[i] == 0 && c.f.Y[i] == 0 {
				want = append(want, int64(i))
			}
		}
		got, ok := impl.FarCells(c.s, c.f)
		isSet(t, "FarCells", got, ok, want...)
	})
}

func TestRowsAndColumnsOfAllShapes(t *testing.T) {
	eachScene(82, special, func(c scene) {
		what := fmt.Sprint(c.s.Wide, c.s.High, c.s.Wrap)
		for y := range c.s.High {
			got, ok := impl.RowOf(c.s, c.f, y)
			var want []float32
			for x := range c.s.Wide {
				want = append(want, c.f.E[x+c.s.Wide*y])
			}
			isList(t, fmt.Sprint("RowOf ", what, y), got, ok, want...)
		}
		for x := range c.s.Wide {
			got, ok := impl.ColumnOf(c.s, c.f, x)
			var want []float32
			for y := range c.s.High {
				want = append(want, c.f.E[x+c.s.Wide*y])
			}
			isList(t, fmt.Sprint("ColumnOf ", what, x), got, ok, want...)
		}
	})
}

func TestRowsAndColumnsOutsideTheSheet(t *testing.T) {
	for _, side := range [][2]int64{{3, 5}, {5, 3}, {16, 16}} {
		for _, wrap := range []bool{false, true} {
			c := plainScene(side[0], side[1], wrap, 0.5, 0)
			for _, n := range []int64{-1, 3, 4, 5, 15, 16, 17, 1 << 32, 1 << 60, math.MaxInt64, math.MinInt64} {
				got, ok := impl.RowOf(c.s, c.f, n)
				isIn := n >= 0 && n < side[1]
				is(t, fmt.Sprint("RowOf ", side, n), fmt.Sprint(len(got) > 0, ok), fmt.Sprint(isIn, isIn))
				got, ok = impl.ColumnOf(c.s, c.f, n)
				isIn = n >= 0 && n < side[0]
				is(t, fmt.Sprint("ColumnOf ", side, n), fmt.Sprint(len(got) > 0, ok), fmt.Sprint(isIn, isIn))
			}
		}
	}
}
