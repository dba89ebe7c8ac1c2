package tests

import (
	"fmt"
	"math"
	"testing"

	"loop.example/g01201/impl"
)

func isChannel(t *testing.T, s impl.Sheet, from, to int64) {
	t.Helper()
	got, ok := impl.ChannelSheet(s, from, to)
	marks := marksWhere(s, func(_, y int64) bool { return !(from <= y && y <= to) })
	isSheet(t, fmt.Sprint("ChannelSheet ", s.Wide, s.High, s.Wrap, from, to), got, ok, silenced(s, marks))
	is(t, "a channel is a sheet", impl.ValidSheet(got), true)
}

func isSlit(t *testing.T, s impl.Sheet, x int64, slits ...int64) {
	t.Helper()
	got, ok := impl.SlitSheet(s, x, slits)
	open := map[int64]bool{}
	for _, y := range slits {
		open[y] = true
	}
	marks := marksWhere(s, func(column, y int64) bool { return column == x && !open[y] })
	isSheet(t, fmt.Sprint("SlitSheet ", s.Wide, s.High, s.Wrap, x, slits), got, ok, silenced(s, marks))
	is(t, "a sheet with slits is a sheet", impl.ValidSheet(got), true)
}

func TestChannelsOfASmallSheet(t *testing.T) {
	for _, wrap := range []bool{false, true} {
		s := plainScene(3, 4, wrap, 0.5, 0.25).s
		h := float32(0.5)
		for _, c := range []struct {
			from, to int64
			want     []float32
		}{
			{0, 3, []float32{h, h, h, h, h, h, h, h, h, h, h, h}},
			{1, 2, []float32{0, 0, 0, h, h, h, h, h, h, 0, 0, 0}},
			{0, 0, []float32{h, h, h, 0, 0, 0, 0, 0, 0, 0, 0, 0}},
			{2, 2, []float32{0, 0, 0, 0, 0, 0, h, h, h, 0, 0, 0}},
			{3, 3, []float32{0, 0, 0, 0, 0, 0, 0, 0, 0, h, h, h}},
			{0, 1, []float32{h, h, h, h, h, h, 0, 0, 0, 0, 0, 0}},
			{2, 3, []float32{0, 0, 0, 0, 0, 0, h, h, h, h, h, h}},
		} {
			got, ok := impl.ChannelSheet(s, c.from, c.to)
			want := copySheet(s)
			want.Speeds = c.want
			isSheet(t, fmt.Sprint("ChannelSheet ", wrap, c.from, c.to), got, ok, want)
		}
	}
}

func TestSlitsOfASmallSheet(t *testing.T) {
	for _, wrap := range []bool{false, true} {
		s := plainScene(3, 4, wrap, 0.5, 0.25).s
		h := float32(0.5)
		for _, c := range []struct {
			x     int64
			slits []int64
			want  []float32
		}{
			{1, nil, []float32{h, 0, h, h, 0, h, h, 0, h, h, 0, h}},
			{1, []int64{}, []float32{h, 0, h, h, 0, h, h, 0, h, h, 0, h}},
			{1, []int64{2}, []float32{h, 0, h, h, 0, h, h, h, h, h, 0, h}},
			{0, []int64{0, 3}, []float32{h, h, h, 0, h, h, 0, h, h, h, h, h}},
			{2, []int64{1, 2}, []float32{h, h, 0, h, h, h, h, h, h, h, h, 0}},
			{2, []int64{0, 1, 2, 3}, []float32{h, h, h, h, h, h, h, h, h, h, h, h}},
		} {
			got, ok := impl.SlitSheet(s, c.x, c.slits)
			want := copySheet(s)
			want.Speeds = c.want
			isSheet(t, fmt.Sprint("SlitSheet ", wrap, c.x, c.slits), got, ok, want)
		}
	}
}

func TestWallsOfTheSquareSheet(t *testing.T) {
	for _, wrap := range []bool{false, true} {
		s := squareScene(wrap, nil).s
		channel, ok := impl.ChannelSheet(s, 1, 3)
		is(t, "ChannelSheet succeeds", ok, true)
		still, ok := impl.StillCells(channel)
		isSet(t, "StillCells of a channel", still, ok, 0, 1, 2, 3, 4, 20, 21, 22, 23, 24)
		slit, ok := impl.SlitSheet(s, 2, []int64{2})
		is(t, "SlitSheet succeeds", ok, true)
		still, ok = impl.StillCells(slit)
		isSet(t, "StillCells of a wall with a slit", still, ok, 2, 7, 17, 22)
	}
}

func TestChannelsOfAllShapes(t *testing.T) {
	source := numbers{180}
	eachShape(func(wide, high int64, wrap bool) {
		s := anySheet(&source, wide, high, wrap)
		for from := range high {
			isChannel(t, s, from, from)
			isChannel(t, s, from, high-1)
			isChannel(t, s, 0, from)
			isChannel(t, s, from, from+below(&source, high-from))
		}
	})
}

// anySlits returns a set of at most MaxSlits rows.
func anySlits(source *numbers, high int64) []int64 {
	var slits []int64
	for y := range high {
		if len(slits) < maxSlits && below(source, 2) == 0 {
			slits = append(slits, y)
		}
	}
	return slits
}

func TestSlitsOfAllShapes(t *testing.T) {
	source := numbers{181}
	eachShape(func(wide, high int64, wrap bool) {
		s := anySheet(&source, wide, high, wrap)
		for x := range wide {
			isSlit(t, s, x, anySlits(&source, high)...)
		}
		x := below(&source, wide)
		isSlit(t, s, x)
		isSlit(t, s, x, 0)
		isSlit(t, s, x, high-1)
		isSlit(t, s, x, 0, high-1)
	})
}

func TestSlitsInAllRows(t *testing.T) {
	source := numbers{182}
	for _, wrap := range []bool{false, true} {
		for high := int64(3); high <= maxSide; high++ {
			s := anySheet(&source, 5, high, wrap)
			var slits []int64
			for y := range high {
				slits = append(slits, y)
				if len(slits) <= maxSlits {
					isSlit(t, s, 4, slits...)
					continue
				}
				got, ok := impl.SlitSheet(s, 4, slits)
				isNoSheet(t, fmt.Sprint("SlitSheet ", high, slits), got, ok)
			}
			if high == maxSlits {
				got, ok := impl.SlitSheet(s, 2, slits)
				isSheet(t, "SlitSheet with a slit in each row", got, ok, s)
			}
		}
		isSlit(t, blankSheet(16, 16, wrap), 15, 1, 3, 5, 7, 9, 11, 13, 15)
	}
}

// Speeds of -0 are made +0 in a wall, and stay elsewhere.
func TestWallsOfSpeedsWithSigns(t *testing.T) {
	for _, wrap := range []bool{false, true} {
		s := plainScene(4, 5, wrap, negativeZero, negativeZero).s
		isChannel(t, s, 1, 2)
		isChannel(t, s, 0, 4)
		isSlit(t, s, 3, 0, 4)
		isSlit(t, s, 0)
	}
}

var noRows = []int64{-1, -2, 5, 6, -5, 16, 1 << 32, 1<<32 + 1, math.MaxInt64, math.MinInt64}

func TestChannelsThatAreRefused(t *testing.T) {
	isNoChannel := func(s impl.Sheet, from, to int64) {
		t.Helper()
		got, ok := impl.ChannelSheet(s, from, to)
		isNoSheet(t, fmt.Sprint("ChannelSheet ", from, to), got, ok)
	}
	for _, wrap := range []bool{false, true} {
		s := plainScene(4, 5, wrap, 0.5, 0).s
		for y := range int64(5) {
			for from := y + 1; from < 5; from++ {
				isNoChannel(s, from, y)
			}
			for _, no := range noRows {
				isNoChannel(s, y, no)
				isNoChannel(s, no, y)
				isNoChannel(s, no, no)
			}
		}
		isNoChannel(s, -1, 5)
		isNoChannel(s, math.MinInt64, math.MaxInt64)
		for _, bad := range badSheets(wrap) {
			isNoChannel(bad, 0, 0)
			isNoChannel(bad, 0, bad.High-1)
			isNoChannel(bad, 1, 1)
		}
	}
}

func isNoSlit(t *testing.T, s impl.Sheet, x int64, slits ...int64) {
	t.Helper()
	got, ok := impl.SlitSheet(s, x, slits)
	isNoSheet(t, fmt.Sprint("SlitSheet ", s.Wide, s.High, s.Wrap, x, slits), got, ok)
}

func TestSlitsThatAreRefused(t *testing.T) {
	for _, wrap := range []bool{false, true} {
		s := plainScene(4, 5, wrap, 0.5, 0).s
		for _, x := range []int64{-1, -4, 4, 5, 19, 1 << 32, 1<<32 + 1, math.MaxInt64, math.MinInt64} {
			isNoSlit(t, s, x)
			isNoSlit(t, s, x, 1)
		}
		for _, y := range noRows {
			isNoSlit(t, s, 1, y)
			isNoSlit(t, s, 1, 0, y)
			isNoSlit(t, s, 1, y, 4)
			isNoSlit(t, s, 1, 0, y, 4)
		}
		for _, slits := range [][]int64{
			{0, 0}, {4, 4}, {1, 0}, {4, 3}, {0, 1, 1}, {0, 2, 1}, {1, 0, 2}, {2, 3, 0}, {0, 1, 2, 3, 4, 4}, {0, 0, 1, 2, 3, 4},
			{4, 3, 2, 1, 0}, {0, 1, 2, 3, 4, 5, 6, 7}, {0, 1, 2, 3, 4, 4, 4, 4}, {0, 1, 2, 3, 4, 0, 1, 2, 3}, {-2, -1}, {5, 6},
		} {
			isNoSlit(t, s, 1, slits...)
		}
		isNoSlit(t, s, 1, repeated[int64](1, 1000)...)
		for _, bad := range badSheets(wrap) {
			isNoSlit(t, bad, 0)
			isNoSlit(t, bad, 1, 1)
			isNoSlit(t, bad, 1, 0, 1)
		}
	}
}

func TestStillCellsOfAllShapes(t *testing.T) {
	source := numbers{183}
	eachShape(func(wide, high int64, wrap bool) {
		s := anySheet(&source, wide, high, wrap)
		var want []int64
		for i, speed := range s.Speeds {
			if bitsOf(speed)<<1 == 0 {
				want = append(want, int64(i))
			}
		}
		got, ok := impl.StillCells(s)
		isSet(t, "StillCells", got, ok, want...)
	})
}

func TestStillCellsOfSomeSpeeds(t *testing.T) {
	for _, wrap := range []bool{false, true} {
		for _, c := range []struct {
			speed float32
			all   bool
		}{{0, true}, {negativeZero, true}, {least, false}, {0x1p-126, false}, {0.25, false}, {0.5, false}} {
			got, ok := impl.StillCells(plainScene(4, 3, wrap, c.speed, 1).s)
			if c.all {
				isSet(t, fmt.Sprint("StillCells of ", c.speed), got, ok, 0, 1, 2, 3, 4, 5, 6, 7, 8, 9, 10, 11)
			} else {
				isSet(t, fmt.Sprint("StillCells of ", c.speed), got, ok)
			}
		}
		s := plainScene(4, 3, wrap, 0.5, 0).s
		s.Speeds[0], s.Speeds[6], s.Speeds[7], s.Speeds[11] = negativeZero, 0, least, negativeZero
		got, ok := impl.StillCells(s)
		isSet(t, "StillCells with both signs", got, ok, 0, 6, 11)
		for n, bad := range badSheets(wrap) {
			got, ok := impl.StillCells(bad)
			isNoSet(t, fmt.Sprint("StillCells of no sheet ", n), got, ok)
		}
	}
}

// What stands still has an E that is only made less by its loss.
func TestStillCellsOnlyLose(t *testing.T) {
	source := numbers{184}
	for _, wrap := range []bool{false, true} {
		for n := range int64(20) {
			c := anyScene(&source, 5+n%3, 4+n%5, wrap, near)
			from := below(&source, c.s.High)
			made, ok := impl.ChannelSheet(c.s, from, from+below(&source, c.s.High-from))
			is(t, "ChannelSheet succeeds", ok, true)
			made, ok = impl.SlitSheet(made, below(&source, c.s.Wide), anySlits(&source, c.s.High))
			is(t, "SlitSheet succeeds", ok, true)
			still, ok := impl.StillCells(made)
			is(t, "StillCells succeeds", ok, true)
			behind := scene{made, c.f}.ran(t, 1)
			for _, i := range still {
				is(t, fmt.Sprint("E of ", i), behind.f.E[i], float32(c.f.E[i]*(1-made.Losses[i])))
			}
		}
	}
}
