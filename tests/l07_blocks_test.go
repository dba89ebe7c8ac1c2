package tests

import (
	"fmt"
	"math"
	"testing"

	"loop.example/g01201/impl"
)

// noSides are not sides of blocks.
var noSides = []int64{0, -1, -2, -maxSide, maxSide + 1, maxSide + 2, 32, 256, 1 << 32, 1<<32 + 1, math.MaxInt64, math.MinInt64, math.MinInt64 + 1}

const (
	asleep = true
	awake  = false
)

func TestExampleOfBlocks(t *testing.T) {
	c := plainScene(3, 5, false, 0.5, 0).with(map[int]float32{4: 2})
	isSleeping(t, "an example ", c, 3, awake, asleep)
}

// A sheet of 9 x 9 cells has 9 blocks of the side 3.
func TestBlocksAroundOneCell(t *testing.T) {
	for _, c := range []struct {
		x, y          int
		walls, joined string
	}{
		{4, 4, "---- ----", "---- ----"},
		{3, 4, "---  ----", "---  ----"},
		{5, 4, "----  ---", "----  ---"},
		{4, 3, "- -- ----", "- -- ----"},
		{4, 5, "---- -- -", "---- -- -"},
		{3, 3, "- -  ----", "- -  ----"},
		{5, 5, "----  - -", "----  - -"},
		{1, 1, " --------", " --------"},
		{2, 2, "  - -----", "  - -----"},
		{7, 7, "-------- ", "-------- "},
		{6, 6, "----- -  ", "----- -  "},
		{2, 6, "--- --  -", "--- --  -"},
		{0, 0, "", " - --- --"},
		{8, 0, "", " - ----- "},
		{0, 8, "", " ----- - "},
		{8, 8, "", "-- --- - "},
		{4, 0, "", "- ----- -"},
		{0, 4, "", "--- - ---"},
		{8, 4, "", "--- - ---"},
	} {
		for _, wrap := range []bool{false, true} {
			want := c.joined
			if !wrap {
				want = c.walls
			}
			if want == "" {
				continue
			}
			var sleepers []bool
			for _, mark := range want {
				sleepers = append(sleepers, mark == '-')
			}
			one := plainScene(9, 9, wrap, 0.5, 0).with(map[int]float32{c.x + 9*c.y: 1})
			isSleeping(t, fmt.Sprint("around ", c.x, c.y, " "), one, 3, sleepers...)
		}
	}
}

// X and Y wake as E does, though they lie between cells.
func TestBlocksWithEachNumber(t *testing.T) {
	for _, wrap := range []bool{false, true} {
		for k := range 3 {
			for _, bits := range specialBits {
				c := plainScene(6, 4, wrap, 0.5, 0.25)
				x := numberOf(bits)
				listsOf(c.f)[k][8] = x
				if bits == 0 {
					isSleeping(t, "a zero ", c, 2, asleep, asleep, asleep, asleep, asleep, asleep)
					continue
				}
				what := fmt.Sprint(x, " in list ", k, " ")
				isSleeping(t, what, c, 2, awake, awake, asleep, asleep, awake, asleep)
				isSleeping(t, what, c, 1, c.sleepers(1)...)
				is(t, what+"wakes five cells", countOf(c.sleepers(1), false), 5)
				isSleeping(t, what, c, maxSide, awake)
			}
		}
	}
}

// -0 is not +0: a step can make +0 of it, and a wall keeps it.
func TestBlocksWithMinusZero(t *testing.T) {
	for k := range 3 {
		c := plainScene(6, 6, false, 0.5, 0)
		listsOf(c.f)[k][0] = negativeZero
		isSleeping(t, fmt.Sprint("-0 in a corner of list ", k), c, 3, awake, asleep, asleep, asleep)
		listsOf(c.f)[k][0], listsOf(c.f)[k][35] = 0, negativeZero
		isSleeping(t, fmt.Sprint("-0 in the last corner of list ", k), c, 3, asleep, asleep, asleep, awake)
	}
	c := plainScene(6, 6, false, 0.5, 0).with(map[int]float32{14: negativeZero})
	is(t, "a step makes +0 of -0", bitsOf(c.stepped().f.E[14]), 0)
	got, awake, ok := impl.StepAwake(c.s, c.f, 2)
	isField(t, "StepAwake with -0", got, ok, blankField(c.s))
	is(t, "how many blocks -0 wakes", awake, 3)
}

func TestBlocksOfZeros(t *testing.T) {
	source := numbers{320}
	eachShape(func(wide, high int64, wrap bool) {
		s := anySheet(&source, wide, high, wrap)
		for side := int64(1); side <= maxSide; side++ {
			blocks := ((wide + side - 1) / side) * ((high + side - 1) / side)
			isAwake(t, "zeros ", scene{s, blankField(s)}, side, repeated(asleep, int(blocks)), blankField(s))
		}
	})
}

// The blocks at the end of a row or a column are smaller.
func TestBlocksThatDoNotDivideTheSides(t *testing.T) {
	for _, c := range []struct {
		wide, high, side int64
		at               int
		sleepers         []bool
	}{
		{5, 4, 2, 0, []bool{awake, asleep, awake, awake, asleep, asleep}},
		{5, 4, 2, 4, []bool{awake, awake, awake, asleep, asleep, awake}},
		{5, 4, 2, 17, []bool{asleep, awake, asleep, awake, awake, asleep}},
		{5, 4, 2, 12, []bool{asleep, awake, asleep, awake, awake, asleep}},
		{5, 4, 2, 13, []bool{asleep, awake, asleep, asleep, awake, awake}},
		{5, 4, 3, 7, []bool{awake, awake, asleep, asleep}},
		{5, 4, 3, 3, []bool{awake, awake, asleep, awake}},
		{5, 4, 4, 4, []bool{awake, awake}},
		{5, 4, 4, 7, []bool{awake, asleep}},
		{5, 4, 5, 7, []bool{awake}},
		{5, 4, 16, 7, []bool{awake}},
		{16, 3, 16, 47, []bool{awake}},
		{16, 3, 15, 13, []bool{awake, asleep}},
		{16, 3, 15, 14, []bool{awake, awake}},
		{16, 3, 15, 0, []bool{awake, awake}},
	} {
		one := plainScene(c.wide, c.high, true, 0.5, 0).with(map[int]float32{c.at: 1})
		isSleeping(t, fmt.Sprint("around ", c.at, " "), one, c.side, c.sleepers...)
	}
}

// fewAwake are fields with zeros almost everywhere.
func fewAwake(source *numbers) float32 {
	if below(source, 60) > 0 {
		return 0
	}
	return special(source)
}

// quiet puts +0 where walls have zeros of both signs, which wake all borders.
func (c scene) quiet() scene {
	f := copyField(c.f)
	for k, list := range listsOf(f) {
		eachCell(c.s, func(x, y int64) {
			e, below, beside := isFree(c.s, x, y)
			if ![]bool{e, below, beside}[k] {
				list[x+c.s.Wide*y] = 0
			}
		})
	}
	return scene{c.s, f}
}

func TestBlocksOfAllShapes(t *testing.T) {
	source := numbers{321}
	asleep, all := int64(0), int64(0)
	eachShape(func(wide, high int64, wrap bool) {
		c := anyScene(&source, wide, high, wrap, fewAwake).quiet()
		stepped := c.stepped().f
		for _, side := range []int64{1 + below(&source, maxSide), 1 + below(&source, 4), max(wide, high)} {
			sleepers := c.sleepers(side)
			isAwake(t, "few numbers ", c, side, sleepers, stepped)
			asleep += countOf(sleepers, true)
			all += int64(len(sleepers))
		}
	})
	is(t, fmt.Sprint("some blocks sleep and some do not: ", asleep, " of ", all), 4*asleep > all && 4*asleep < 3*all, true)
}

func TestBlocksOfAllSides(t *testing.T) {
	source := numbers{322}
	for kind, number := range map[string]func(source *numbers) float32{"few": fewAwake, "near": near, "few bits": fewBits, "special": special} {
		for _, side := range [][2]int64{{3, 3}, {5, 4}, {7, 9}, {16, 3}, {16, 16}} {
			for _, wrap := range []bool{false, true} {
				c := anyScene(&source, side[0], side[1], wrap, number)
				if below(&source, 2) == 0 {
					c = c.quiet()
				}
				stepped := c.stepped().f
				for side := int64(1); side <= maxSide; side++ {
					isAwake(t, kind, c, side, c.sleepers(side), stepped)
				}
			}
		}
	}
}

// A wave wakes one block after another, until none sleeps.
func TestBlocksThatWakeOneAfterAnother(t *testing.T) {
	for _, wrap := range []bool{false, true} {
		c := plainScene(16, 16, wrap, 0.5, 0).with(map[int]float32{8 + 16*8: 1})
		before := int64(0)
		for steps := range 20 {
			f, awake, ok := impl.StepAwake(c.s, c.f, 2)
			what := fmt.Sprint("StepAwake ", wrap, steps)
			isField(t, what, f, ok, c.stepped().f)
			is(t, what+": no block falls asleep", awake >= before, true)
			c, before = scene{c.s, f}, awake
		}
		is(t, "all blocks are awake", before, 64)
	}
}

func TestSidesThatAreRefused(t *testing.T) {
	source := numbers{323}
	for _, wrap := range []bool{false, true} {
		for _, side := range noSides {
			refusesSide(t, fmt.Sprint(side, wrap), anyScene(&source, 4, 5, wrap, near), side)
			refusesSide(t, fmt.Sprint(side, wrap), plainScene(16, 16, wrap, 0.5, 0), side)
		}
	}
}

// The digests are those of a second program, in another language, that follows the
// document. They tell which blocks of all sides sleep.
func TestBlocksOfASecondProgram(t *testing.T) {
	for _, c := range []struct {
		seed       uint64
		wide, high int64
		wrap       bool
		want       digest
	}{
		{340, 3, 3, true, 0x5b6ba10d756a0264},
		{341, 16, 16, false, 0x8cd03f5796949d74},
		{342, 16, 16, true, 0x7b1e7e63c0621724},
		{343, 7, 5, true, 0x8aeca4e489b859b4},
		{344, 13, 11, false, 0x03544092ff83a094},
		{345, 16, 4, true, 0x42e4c7d7159d9205},
	} {
		from := anyScene(&numbers{c.seed}, c.wide, c.high, c.wrap, fewAwake).quiet()
		got := newDigest
		for side := int64(1); side <= maxSide; side++ {
			blocks, ok := impl.SleepingBlocks(from.s, from.f, side)
			is(t, "SleepingBlocks succeeds", ok, true)
			for _, sleeps := range blocks {
				got = got.with(uint32(countOf([]bool{sleeps}, true)))
			}
		}
		is(t, fmt.Sprintf("the digest of %+v", c), got, c.want)
	}
}
