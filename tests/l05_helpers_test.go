package tests

import (
	"fmt"
	"math"
	"slices"
	"testing"

	"loop.example/g01201/impl"
)

const maxSlits = 8

// noWidths are neither widths nor sides.
var noWidths = []int64{0, -1, -2, -16, maxSide + 1, maxSide + 2, 256, 1 << 32, 1<<32 + 1, math.MaxInt64, math.MinInt64, math.MinInt64 + 1}

// squareScene returns the sheet of the examples, 5 wide and 5 high with the speed
// 1/2, with numbers of E.
func squareScene(wrap bool, values map[int]float32) scene {
	return plainScene(5, 5, wrap, 0.5, 0).with(values)
}

// depthIn counts how often a cell can be moved towards the nearest edge.
func depthIn(s impl.Sheet, x, y int64) int64 {
	depth := int64(0)
	for x-depth > 0 && y-depth > 0 && x+depth < s.Wide-1 && y+depth < s.High-1 {
		depth++
	}
	return depth
}

// cellsOf marks the cells of a rect that is a part of a sheet.
func cellsOf(s impl.Sheet, r impl.Rect) []bool {
	marks := make([]bool, s.Wide*s.High)
	for y := r.Y; y < r.Y+r.High; y++ {
		for x := r.X; x < r.X+r.Wide; x++ {
			marks[x+s.Wide*y] = true
		}
	}
	return marks
}

// eachRect does something for all rects of a sheet.
func eachRect(s impl.Sheet, do func(r impl.Rect)) {
	eachCell(s, func(x, y int64) {
		for high := int64(1); y+high <= s.High; high++ {
			for wide := int64(1); x+wide <= s.Wide; wide++ {
				do(impl.Rect{X: x, Y: y, Wide: wide, High: high})
			}
		}
	})
}

func anyRect(source *numbers, s impl.Sheet) impl.Rect {
	x, y := below(source, s.Wide), below(source, s.High)
	return impl.Rect{X: x, Y: y, Wide: 1 + below(source, s.Wide-x), High: 1 + below(source, s.High-y)}
}

// someRects are rects in the middle, of one cell in each corner, of one row, of
// one column and of the whole sheet.
func someRects(s impl.Sheet) []impl.Rect {
	right, below := s.Wide-1, s.High-1
	return []impl.Rect{
		{X: 1, Y: 1, Wide: s.Wide - 2, High: s.High - 2}, {X: s.Wide / 2, Y: s.High / 2, Wide: 1, High: 1},
		{Wide: 1, High: 1}, {X: right, Wide: 1, High: 1}, {Y: below, Wide: 1, High: 1}, {X: right, Y: below, Wide: 1, High: 1},
		{Wide: s.Wide, High: 1}, {Y: 1, Wide: s.Wide, High: 1}, {Y: below, Wide: s.Wide, High: 1}, {X: 1, Y: below, Wide: right, High: 1},
		{Wide: 1, High: s.High}, {X: 1, Wide: 1, High: s.High}, {X: right, Wide: 1, High: s.High}, {X: right, Y: 1, Wide: 1, High: below},
		{Wide: s.Wide, High: s.High}, {X: 1, Y: 1, Wide: right, High: below},
	}
}

// noRects are not rects of a sheet 4 wide and 5 high; some would be if they went
// around an edge, and some if sums of their numbers became too great.
func noRects() []impl.Rect {
	all := []impl.Rect{
		{}, {X: 1, Y: 1}, {Wide: 1}, {High: 1}, {X: 3, Y: 4}, {X: 1, Y: 1, Wide: -1, High: 1}, {X: 1, Y: 1, Wide: 1, High: -1},
		{X: 2, Y: 2, Wide: -2, High: -2}, {X: 4, Y: 5, Wide: -4, High: -5}, {X: 4, Wide: 0, High: 5}, {Y: 5, Wide: 4, High: 0},
		{Wide: 5, High: 5}, {Wide: 4, High: 6}, {X: 1, Wide: 4, High: 5}, {Y: 1, Wide: 4, High: 5}, {X: 3, Wide: 2, High: 1}, {Y: 4, Wide: 1, High: 2},
		{X: 3, Y: 4, Wide: 2, High: 2}, {X: 4, Wide: 1, High: 1}, {Y: 5, Wide: 1, High: 1}, {X: 4, Y: 5, Wide: 1, High: 1}, {X: 19, Wide: 1, High: 1},
		{X: -1, Wide: 1, High: 1}, {Y: -1, Wide: 1, High: 1}, {X: -1, Wide: 2, High: 1}, {Y: -1, Wide: 1, High: 2}, {X: -4, Y: -5, Wide: 4, High: 5}, {X: -4, Wide: 8, High: 1},
	}
	for _, n := range []int64{math.MaxInt64, math.MaxInt64 - 1, math.MinInt64, math.MinInt64 + 1, 1 << 62, -1 << 62, 1 << 32, 1<<32 + 1, -1 << 32} {
		all = append(all,
			impl.Rect{X: n, Wide: 1, High: 1}, impl.Rect{Y: n, Wide: 1, High: 1}, impl.Rect{Wide: n, High: 1}, impl.Rect{Wide: 1, High: n},
			impl.Rect{X: 1, Wide: n, High: 1}, impl.Rect{Y: 1, Wide: 1, High: n}, impl.Rect{X: 2, Y: 2, Wide: n, High: n}, impl.Rect{X: n, Y: n, Wide: n, High: n},
			impl.Rect{X: n, Wide: -n, High: 1}, impl.Rect{X: n, Wide: 1 - n, High: 1}, impl.Rect{X: n, Wide: 4 - n, High: 1},
			impl.Rect{Y: n, Wide: 1, High: -n}, impl.Rect{Y: n, Wide: 1, High: 1 - n}, impl.Rect{Y: n, Wide: 1, High: 5 - n},
			impl.Rect{X: 1 - n, Wide: n, High: 1}, impl.Rect{Y: 1 - n, Wide: 1, High: n},
		)
	}
	return all
}

// markedWith returns a list with a number where marks are.
func markedWith(list []float32, marks []bool, x float32) []float32 {
	made := slices.Clone(list)
	for i, isMarked := range marks {
		if isMarked {
			made[i] = x
		}
	}
	return made
}

// graded grades losses as the document tells.
func graded(s impl.Sheet, width int64, most float32) impl.Sheet {
	s = copySheet(s)
	eachCell(s, func(x, y int64) {
		d := depthIn(s, x, y)
		if d >= width {
			return
		}
		g := float32(float32(width-d) / float32(width))
		square := float32(g * g)
		product := float32(most * square)
		loss := float32(s.Losses[x+s.Wide*y] + product)
		if loss > 1 {
			loss = 1
		}
		s.Losses[x+s.Wide*y] = loss
	})
	return s
}

// ramped ramps a field as the document tells.
func (c scene) ramped(width int64) impl.Field {
	f := copyField(c.f)
	eachCell(c.s, func(x, y int64) {
		if d := depthIn(c.s, x, y); d < width {
			by := float32(float32(d) / float32(width))
			f.E[x+c.s.Wide*y] = float32(f.E[x+c.s.Wide*y] * by)
		}
	})
	return f
}

// silenced returns a sheet in which marked cells have no speed.
func silenced(s impl.Sheet, marks []bool) impl.Sheet {
	s = copySheet(s)
	s.Speeds = markedWith(s.Speeds, marks, 0)
	return s
}

// marksWhere marks the cells for which something holds.
func marksWhere(s impl.Sheet, holds func(x, y int64) bool) []bool {
	var marks []bool
	eachCell(s, func(x, y int64) { marks = append(marks, holds(x, y)) })
	return marks
}

// energyIn sums up the squares of a field in marked cells as the document tells.
func energyIn(f impl.Field, marks []bool) float32 {
	sum := 0.0
	for i, isMarked := range marks {
		if isMarked {
			e, x, y := float64(f.E[i]), float64(f.X[i]), float64(f.Y[i])
			one := e*e + x*x
			one += y * y
			sum += one
		}
	}
	return float32(sum)
}

// heightsIn sums up the squares of E alone.
func heightsIn(f impl.Field, marks []bool) float32 {
	sum := 0.0
	for i, isMarked := range marks {
		if isMarked {
			sum += float64(f.E[i]) * float64(f.E[i])
		}
	}
	return float32(sum)
}

// fluxThrough sums up the products of a column as the document tells.
func fluxThrough(c scene, x int64) float32 {
	sum := float32(0)
	for y := range c.s.High {
		i := x + c.s.Wide*y
		product := float32(c.f.E[i] * c.f.Y[i])
		sum += product
	}
	return sum
}

func isSumOf(t *testing.T, what string, want float32) func(got float32, ok bool) {
	t.Helper()
	return func(got float32, ok bool) {
		t.Helper()
		is(t, what, told(got, ok), told(want, true))
	}
}

func isNoSum(t *testing.T, what string) func(got float32, ok bool) {
	t.Helper()
	return func(got float32, ok bool) {
		t.Helper()
		is(t, what, told(got, ok), told(float32(0), false))
	}
}

func isNoSet(t *testing.T, what string, got []int64, ok bool) {
	t.Helper()
	is(t, what, fmt.Sprint(len(got), ok), "0 false")
}

// refusesRect checks that all functions with rects refuse one.
func refusesRect(t *testing.T, what string, c scene, r impl.Rect) {
	t.Helper()
	is(t, "IsRect "+what, impl.IsRect(c.s, r), false)
	s, ok := impl.FillRect(c.s, r, 0.5, 0)
	isNoSheet(t, "FillRect "+what, s, ok)
	f, ok := impl.ClearRect(c.s, c.f, r)
	isNoField(t, "ClearRect "+what, f, ok)
	isNoSum(t, "EnergyIn "+what)(impl.EnergyIn(c.s, c.f, r))
}

// refusesWidth checks that all functions with a width refuse one.
func refusesWidth(t *testing.T, what string, c scene, width int64) {
	t.Helper()
	for _, most := range []float32{0, 0.5, 1} {
		s, ok := impl.GradeLosses(c.s, width, most)
		isNoSheet(t, "GradeLosses "+what, s, ok)
	}
	f, ok := impl.RampField(c.s, c.f, width)
	isNoField(t, "RampField "+what, f, ok)
	isNoSum(t, "EdgeEnergy "+what)(impl.EdgeEnergy(c.s, c.f, width))
}

// refusesField checks that all functions of chapter 5 with fields refuse one.
func refusesField(t *testing.T, what string, c scene) {
	t.Helper()
	f, ok := impl.RampField(c.s, c.f, 1)
	isNoField(t, "RampField "+what, f, ok)
	f, ok = impl.ClearRect(c.s, c.f, impl.Rect{Wide: 1, High: 1})
	isNoField(t, "ClearRect "+what, f, ok)
	f, ok = impl.ClearRect(c.s, c.f, impl.Rect{Wide: c.s.Wide, High: c.s.High})
	isNoField(t, "ClearRect of all "+what, f, ok)
	isNoSum(t, "EnergyIn "+what)(impl.EnergyIn(c.s, c.f, impl.Rect{Wide: 1, High: 1}))
	isNoSum(t, "FluxThrough "+what)(impl.FluxThrough(c.s, c.f, 1))
	isNoSum(t, "EdgeEnergy "+what)(impl.EdgeEnergy(c.s, c.f, 1))
}
