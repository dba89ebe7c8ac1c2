package tests

import (
	"fmt"
	"math"
	"testing"

	"loop.example/g01201/impl"
)

func wallsToMirror() (impl.Sheet, impl.Field) {
	s := impl.Sheet{
		Wide: 4, High: 3,
		Speeds: []float32{0, 0.01, 0.02, 0.03, 0.1, 0.11, 0.12, 0.13, 0.2, 0.21, 0.22, 0.23},
		Losses: []float32{0.5, 0.51, 0.52, 0.53, 0.6, 0.61, 0.62, 0.63, 0.7, 0.71, 0.72, 0.73},
	}
	f := impl.Field{
		E: []float32{0, 0, 0, 0, 0, 1, 2, 0, 0, 0, 0, 0},
		X: []float32{1, 2, 3, 4, 5, 6, 7, 8, 0, 0, 0, 0},
		Y: []float32{1, 2, 3, 0, 4, 5, 6, 0, 7, 8, 9, 0},
	}
	return s, f
}

func TestMirrorWithWalls(t *testing.T) {
	s, f := wallsToMirror()
	mirror, ok := impl.MirrorSheet(s)
	isSheet(t, "MirrorSheet", mirror, ok, impl.Sheet{
		Wide: 4, High: 3,
		Speeds: []float32{0.03, 0.02, 0.01, 0, 0.13, 0.12, 0.11, 0.1, 0.23, 0.22, 0.21, 0.2},
		Losses: []float32{0.53, 0.52, 0.51, 0.5, 0.63, 0.62, 0.61, 0.6, 0.73, 0.72, 0.71, 0.7},
	})
	got, ok := impl.MirrorField(s, f)
	z := negativeZero
	isField(t, "MirrorField", got, ok, impl.Field{
		E: []float32{0, 0, 0, 0, 0, 2, 1, 0, 0, 0, 0, 0},
		X: []float32{4, 3, 2, 1, 8, 7, 6, 5, 0, 0, 0, 0},
		Y: []float32{-3, -2, -1, z, -6, -5, -4, z, -9, -8, -7, z},
	})
}

func TestMirrorWithJoinedEdges(t *testing.T) {
	s, f := wallsToMirror()
	s.Wrap = true
	f.E[3], f.X[8], f.Y[3], f.Y[11] = 9, 10, 11, negativeZero
	mirror, ok := impl.MirrorSheet(s)
	is(t, "MirrorSheet", told(mirror.Wrap, ok, mirror.Speeds[:4]), told(true, true, []float32{0.03, 0.02, 0.01, 0}))
	got, ok := impl.MirrorField(s, f)
	z := negativeZero
	isField(t, "MirrorField", got, ok, impl.Field{
		E: []float32{9, 0, 0, 0, 0, 2, 1, 0, 0, 0, 0, 0},
		X: []float32{4, 3, 2, 1, 8, 7, 6, 5, 0, 0, 0, 10},
		Y: []float32{-3, -2, -1, -11, -6, -5, -4, z, -9, -8, -7, 0},
	})
}

func TestExchangeWithWalls(t *testing.T) {
	s, f := wallsToMirror()
	swap, ok := impl.SwapSheet(s)
	isSheet(t, "SwapSheet", swap, ok, impl.Sheet{
		Wide: 3, High: 4,
		Speeds: []float32{0, 0.1, 0.2, 0.01, 0.11, 0.21, 0.02, 0.12, 0.22, 0.03, 0.13, 0.23},
		Losses: []float32{0.5, 0.6, 0.7, 0.51, 0.61, 0.71, 0.52, 0.62, 0.72, 0.53, 0.63, 0.73},
	})
	got, ok := impl.SwapField(s, f)
	z := negativeZero
	isField(t, "SwapField", got, ok, impl.Field{
		E: []float32{0, 0, 0, 0, 1, 0, 0, 2, 0, 0, 0, 0},
		X: []float32{-1, -4, -7, -2, -5, -8, -3, -6, -9, z, z, z},
		Y: []float32{-1, -5, z, -2, -6, z, -3, -7, z, -4, -8, z},
	})
	s.Wrap = true
	swap, ok = impl.SwapSheet(s)
	is(t, "SwapSheet with joined edges", told(swap.Wide, swap.High, swap.Wrap, ok), told(int64(3), int64(4), true, true))
}

func TestShiftOfASmallSheet(t *testing.T) {
	s, f := wallsToMirror()
	s.Wrap = true
	f.X[8], f.Y[3] = negativeZero, notANumber
	shift, ok := impl.ShiftSheet(s, 1, -1)
	isSheet(t, "ShiftSheet", shift, ok, impl.Sheet{
		Wide: 4, High: 3, Wrap: true,
		Speeds: []float32{0.13, 0.1, 0.11, 0.12, 0.23, 0.2, 0.21, 0.22, 0.03, 0, 0.01, 0.02},
		Losses: []float32{0.63, 0.6, 0.61, 0.62, 0.73, 0.7, 0.71, 0.72, 0.53, 0.5, 0.51, 0.52},
	})
	got, ok := impl.ShiftField(s, f, 1, -1)
	isField(t, "ShiftField", got, ok, impl.Field{
		E: []float32{0, 0, 1, 2, 0, 0, 0, 0, 0, 0, 0, 0},
		X: []float32{8, 5, 6, 7, 0, negativeZero, 0, 0, 4, 1, 2, 3},
		Y: []float32{0, 4, 5, 6, 0, 7, 8, 9, notANumber, 1, 2, 3},
	})
}

// atCell returns the place of a number in a list, around the edges.
func atCell(list []float32, wide, high, x, y int64) *float32 {
	for x < 0 {
		x += wide
	}
	for y < 0 {
		y += high
	}
	return &list[x%wide+wide*(y%high)]
}

// eachCell does something for all cells of a sheet.
func eachCell(s impl.Sheet, do func(x, y int64)) {
	for y := range s.High {
		for x := range s.Wide {
			do(x, y)
		}
	}
}

func TestMirrorsOfAllShapes(t *testing.T) {
	source := numbers{40}
	eachShape(func(wide, high int64, wrap bool) {
		s := anySheet(&source, wide, high, wrap)
		f := anyField(&source, s, special)
		sheet, field := blankSheet(wide, high, wrap), blankField(s)
		eachCell(s, func(x, y int64) {
			at, mirrored := x+wide*y, wide-1-x+wide*y
			sheet.Speeds[mirrored], sheet.Losses[mirrored] = s.Speeds[at], s.Losses[at]
			field.E[mirrored], field.X[mirrored] = f.E[at], f.X[at]
			*atCell(field.Y, wide, high, wide-2-x, y) = -f.Y[at]
		})
		got, ok := impl.MirrorSheet(s)
		isSheet(t, "MirrorSheet", got, ok, sheet)
		made, ok := impl.MirrorField(s, f)
		isField(t, "MirrorField", made, ok, field)
		isOf(t, got, made)
	})
}

// isOf checks that what is made of a field is a field of what is made of its sheet.
func isOf(t *testing.T, s impl.Sheet, f impl.Field) {
	t.Helper()
	is(t, "what is made is valid", impl.ValidSheet(s) && impl.IsField(s, f), true)
}

func TestExchangesOfAllShapes(t *testing.T) {
	source := numbers{41}
	eachShape(func(wide, high int64, wrap bool) {
		s := anySheet(&source, wide, high, wrap)
		f := anyField(&source, s, special)
		sheet := blankSheet(high, wide, wrap)
		field := blankField(sheet)
		eachCell(s, func(x, y int64) {
			at, swapped := x+wide*y, y+high*x
			sheet.Speeds[swapped], sheet.Losses[swapped] = s.Speeds[at], s.Losses[at]
			field.E[swapped], field.X[swapped], field.Y[swapped] = f.E[at], -f.Y[at], -f.X[at]
		})
		got, ok := impl.SwapSheet(s)
		isSheet(t, "SwapSheet", got, ok, sheet)
		made, ok := impl.SwapField(s, f)
		isField(t, "SwapField", made, ok, field)
		isOf(t, got, made)
	})
}

func TestShiftsOfAllShapes(t *testing.T) {
	source := numbers{42}
	eachShape(func(wide, high int64, wrap bool) {
		if !wrap {
			return
		}
		s := anySheet(&source, wide, high, wrap)
		f := anyField(&source, s, special)
		for _, by := range someShifts(&source, wide, high) {
			sheet, field := blankSheet(wide, high, wrap), blankField(s)
			eachCell(s, func(x, y int64) {
				at := x + wide*y
				*atCell(sheet.Speeds, wide, high, x+by[0], y+by[1]) = s.Speeds[at]
				*atCell(sheet.Losses, wide, high, x+by[0], y+by[1]) = s.Losses[at]
				for k, list := range listsOf(f) {
					*atCell(listsOf(field)[k], wide, high, x+by[0], y+by[1]) = list[at]
				}
			})
			what := fmt.Sprint(wide, " ", high, " by ", by)
			got, ok := impl.ShiftSheet(s, by[0], by[1])
			isSheet(t, "ShiftSheet "+what, got, ok, sheet)
			made, ok := impl.ShiftField(s, f, by[0], by[1])
			isField(t, "ShiftField "+what, made, ok, field)
			isOf(t, got, made)
		}
	})
}

func someShifts(source *numbers, wide, high int64) [][2]int64 {
	some := func() int64 { return int64(source.next()>>33%33) - 16 }
	return [][2]int64{
		{0, 0}, {1, 0}, {0, 1}, {-1, 0}, {0, -1}, {wide, 0}, {0, high}, {-wide, -high}, {high, 0}, {0, wide},
		{16, 16}, {-16, -16}, {16, -16}, {0, 16}, {-16, 0}, {some(), some()}, {some(), some()},
	}
}

func TestShiftsByWholeSidesChangeNothing(t *testing.T) {
	source := numbers{43}
	eachShape(func(wide, high int64, wrap bool) {
		if !wrap {
			return
		}
		s := anySheet(&source, wide, high, wrap)
		f := anyField(&source, s, special)
		for _, x := range []int64{0, wide, -wide} {
			for _, y := range []int64{0, high, -high} {
				got, ok := impl.ShiftSheet(s, x, y)
				isSheet(t, "ShiftSheet", got, ok, s)
				made, ok := impl.ShiftField(s, f, x, y)
				isField(t, "ShiftField", made, ok, f)
			}
		}
	})
}

func TestShiftsThatAreRefused(t *testing.T) {
	s := blankSheet(4, 4, true)
	f := blankField(s)
	for _, n := range []int64{17, -17, 18, 32, -32, 1 << 32, math.MaxInt64, math.MinInt64} {
		for _, by := range [][2]int64{{n, 0}, {0, n}, {n, n}, {n, -16}, {16, n}} {
			got, ok := impl.ShiftSheet(s, by[0], by[1])
			isNoSheet(t, fmt.Sprint("ShiftSheet ", by), got, ok)
			made, ok := impl.ShiftField(s, f, by[0], by[1])
			isNoField(t, fmt.Sprint("ShiftField ", by), made, ok)
		}
	}
	s.Wrap = false
	for _, by := range [][2]int64{{0, 0}, {1, 1}, {4, 0}, {16, -16}} {
		got, ok := impl.ShiftSheet(s, by[0], by[1])
		isNoSheet(t, fmt.Sprint("ShiftSheet with walls ", by), got, ok)
		made, ok := impl.ShiftField(s, f, by[0], by[1])
		isNoField(t, fmt.Sprint("ShiftField with walls ", by), made, ok)
	}
}

func TestMirrorsRequireSheets(t *testing.T) {
	speed, loss, short, wide := blankSheet(3, 4, true), blankSheet(3, 4, true), blankSheet(3, 4, true), blankSheet(17, 3, true)
	speed.Speeds[0], loss.Losses[11], short.Speeds = 0.75, -1, make([]float32, 11)
	for _, s := range []impl.Sheet{speed, loss, short, wide, {}, {Wide: 3, High: 3, Wrap: true}, {Wide: 1 << 32, High: 1 << 32, Wrap: true}} {
		got, ok := impl.MirrorSheet(s)
		isNoSheet(t, "MirrorSheet", got, ok)
		got, ok = impl.SwapSheet(s)
		isNoSheet(t, "SwapSheet", got, ok)
		got, ok = impl.ShiftSheet(s, 0, 0)
		isNoSheet(t, "ShiftSheet", got, ok)
	}
}
