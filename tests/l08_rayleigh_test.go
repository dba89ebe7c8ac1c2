package tests

import (
	"fmt"
	"math"
	"testing"

	"loop.example/g01201/impl"
)

func isRayleigh(t *testing.T, what string, c scene, want float32) {
	t.Helper()
	isSumOf(t, "RayleighOf "+what, want)(impl.RayleighOf(c.s, c.f))
}

// Each number that is wanted here has been computed by hand: a number that is
// alone differs from four others.
func TestRayleighNumbers(t *testing.T) {
	for _, x := range []float32{1, -1, 2, 0.1, 1e30, -1e-30, least, -math.MaxFloat32} {
		for _, speed := range []float32{0.5, 0.25, 0x1p-30, 0x1p-140} {
			isRayleigh(t, "one number", plainScene(3, 3, false, speed, 0.5).with(map[int]float32{4: x}), 2*speed)
			isRayleigh(t, "one number, joined edges", plainScene(3, 4, true, speed, 0).with(map[int]float32{0: x}), 2*speed)
			isRayleigh(t, "the last number, joined edges", plainScene(3, 4, true, speed, 0).with(map[int]float32{11: x}), 2*speed)
			isRayleigh(t, "the same numbers, joined edges", scene{plainSheet(4, 3, true, speed), impl.Field{E: repeated(x, 12), X: make([]float32, 12), Y: make([]float32, 12)}}, 0)
		}
	}
	isRayleigh(t, "two numbers", rowScene(1, 1), 0.75)
	isRayleigh(t, "two opposites", rowScene(1, -1), 1.25)
	isRayleigh(t, "two numbers above one another", turned(rowScene(1, -1)), 1.25)
	isRayleigh(t, "three numbers", rowScene(1, 2, 1), 0.5*(1+1+1+1+2*6)/(2*6))
	isRayleigh(t, "two numbers, joined edges", plainScene(3, 3, true, 0.5, 0).with(map[int]float32{3: 1, 5: 1}), 0.75)
	isRayleigh(t, "two numbers above one another, joined edges", plainScene(3, 3, true, 0.5, 0).with(map[int]float32{1: 1, 7: -1}), 1.25)
	board := plainScene(4, 4, true, 0.5, 0)
	eachCell(board.s, func(x, y int64) { board.f.E[x+4*y] = 1 - 2*float32((x+y)%2) })
	isRayleigh(t, "a board", board, 2)
}

func TestRayleighNumbersOfSeveralSpeeds(t *testing.T) {
	c := rowScene(3, 1)
	c.s.Speeds[5], c.s.Speeds[6] = 0.25, 0.125
	isRayleigh(t, "two speeds", c, float32(0.5*(9+1+9+1+9+4+1)/(36+8)))
	for i := range c.s.Speeds {
		other := scene{copySheet(c.s), c.f}
		other.s.Speeds[i] = 0.375
		r := rayleighFor(t, other)
		is(t, fmt.Sprint("the speed at ", i, " matters"), r != rayleighFor(t, c), i == 5 || i == 6)
	}
	c.s.Losses[5] = 1
	isRayleigh(t, "a loss", c, float32(0.5*(9+1+9+1+9+4+1)/(36+8)))
	c.f.X[5], c.f.Y[6] = 7, notANumber
	isRayleigh(t, "numbers of X and Y", c, float32(0.5*(9+1+9+1+9+4+1)/(36+8)))
	lone := plainScene(4, 4, true, 0.5, 0).with(map[int]float32{3: 1})
	lone.s.Speeds[3] = least
	isRayleigh(t, "the least speed", lone, 2*least)
}

// Differences are those of 64-bit numbers, too.
func TestRayleighNumbersAreNarrowedInTheEnd(t *testing.T) {
	most := float32(math.MaxFloat32)
	isRayleigh(t, "the greatest numbers", rowScene(most, -most), 1.25)
	isRayleigh(t, "the greatest numbers, joined edges", plainScene(3, 3, true, 0.5, 0).with(map[int]float32{3: most, 4: -most}), 1.25)
	isRayleigh(t, "the least numbers", rowScene(least, -least), 1.25)
	sum := 6*0x1p48 + 6 + (0x1p24+1)*(0x1p24+1)
	isRayleigh(t, "a difference of 25 bits", rowScene(1<<24, -1), float32((sum-3*0x1p48-3)/2/(2*0x1p48+2)))
	isRayleigh(t, "a square of 48 bits", rowScene(1+0x1p-23), 1)
}

// Where rows differ, small differences within rows are lost one by one if they are
// added in the end, but not if columns differ. The speeds of two cells are such
// that this can be seen in the last bit; the numbers are those of the second program.
func TestOrderOfDifferences(t *testing.T) {
	small := numberOf(0x32fd70a4)
	for _, c := range []struct{ first, second, rows, columns uint32 }{
		{0x3ebe7dce, 0x3e9ffdc9, 0x3e78aa20, 0x3e78aa21},
		{0x3e8b2ebb, 0x3e98bbb8, 0x3e746cb8, 0x3e746cb9},
		{0x3eea4079, 0x3e9914aa, 0x3e7a058b, 0x3e7a058c},
		{0x3ef5130e, 0x3edbd38f, 0x3e7e5678, 0x3e7e5679},
	} {
		rows := plainScene(16, 16, true, 0.5, 0)
		eachCell(rows.s, func(x, y int64) {
			e := float32(1)
			if y > 0 && y < 15 {
				e = small - 2*small*float32(x%2)
			}
			rows.f.E[x+16*y] = e
		})
		columns := turned(rows)
		for k, speed := range []uint32{c.first, c.second} {
			rows.s.Speeds[k], columns.s.Speeds[16*k] = numberOf(speed), numberOf(speed)
		}
		isRayleigh(t, "rows that differ", rows, numberOf(c.rows))
		isRayleigh(t, "columns that differ", columns, numberOf(c.columns))
	}
}

func TestRayleighNumbersOfWhatIsNotFinite(t *testing.T) {
	for _, wrap := range []bool{false, true} {
		c := plainScene(5, 5, wrap, 0.5, 0)
		for _, x := range []float32{infinity, -infinity} {
			isRayleigh(t, "an infinity", c.with(map[int]float32{12: x}), notANumber)
			isRayleigh(t, "two infinities", c.with(map[int]float32{12: x, 13: x}), notANumber)
		}
		for _, x := range someNotANumbers {
			isNoSum(t, "RayleighOf a not-a-number")(impl.RayleighOf(c.s, c.with(map[int]float32{12: x}).f))
			isNoSum(t, "RayleighOf a not-a-number and another")(impl.RayleighOf(c.s, c.with(map[int]float32{7: 1, 12: x}).f))
		}
	}
}

func TestRayleighNumbersOfZeros(t *testing.T) {
	source := numbers{430}
	eachShape(func(wide, high int64, wrap bool) {
		s := movingSheet(&source, wide, high, wrap)
		f := anyField(&source, s, special)
		for i := range f.E {
			f.E[i] = picked(&source, []float32{0, negativeZero})
		}
		isNoSum(t, fmt.Sprint("RayleighOf zeros ", wide, high, wrap))(impl.RayleighOf(s, f))
	})
}

func TestRayleighNumbersAreWhatTheDocumentTells(t *testing.T) {
	source := numbers{431}
	for kind, number := range someKinds {
		eachShape(func(wide, high int64, wrap bool) {
			s := movingSheet(&source, wide, high, wrap)
			c := scene{s, anyField(&source, s, number)}
			isResult[float32](t, fmt.Sprint("RayleighOf ", kind, c.shape()), toldTwo(rayleighOf(c)))(impl.RayleighOf(c.s, c.f))
		})
	}
}

// The digests are those of a second program, in another language, that follows
// the document.
func TestRayleighNumbersToTheLastBit(t *testing.T) {
	for _, c := range []struct {
		seed uint64
		kind string
		want digest
	}{
		{432, "near", 0xf84f1174f5bd686e},
		{433, "few bits", 0x0bf0722607ab7423},
		{434, "special", 0x508748eabd778c33},
		{435, "ordinary", 0x027060546dacc018},
		{436, "integers", 0xf4cab0468a276e00},
	} {
		source, got := numbers{c.seed}, newDigest
		for _, side := range someSides {
			for _, wrap := range []bool{false, true} {
				for range 12 {
					s := movingSheet(&source, side[0], side[1], wrap)
					got = got.withOutcome(impl.RayleighOf(s, anyField(&source, s, someKinds[c.kind])))
				}
			}
		}
		is(t, "the digest of Rayleigh numbers of "+c.kind, got, c.want)
	}
}

func TestRayleighNumbersThatAreRefused(t *testing.T) {
	for _, wrap := range []bool{false, true} {
		c := plainScene(4, 5, wrap, 0.5, 0).with(map[int]float32{5: 1})
		isRayleigh(t, "a good field", c, 1)
		for i := range 20 {
			for _, speed := range append([]float32{0, negativeZero}, noSpeeds...) {
				bad := scene{copySheet(c.s), c.f}
				bad.s.Speeds[i] = speed
				isNoSum(t, fmt.Sprint("RayleighOf with ", speed, " at ", i))(impl.RayleighOf(bad.s, bad.f))
			}
		}
		for k, s := range badSheets(wrap) {
			isNoSum(t, fmt.Sprint("RayleighOf a bad sheet ", k))(impl.RayleighOf(s, c.f))
			isNoSum(t, fmt.Sprint("RayleighOf nothing ", k))(impl.RayleighOf(s, impl.Field{}))
		}
		for k := range 3 {
			for _, change := range []func(list []float32) []float32{
				func(list []float32) []float32 { return list[:19] },
				func(list []float32) []float32 { return append(list, 0) },
			} {
				bad := copyField(c.f)
				list := [3]*[]float32{&bad.E, &bad.X, &bad.Y}[k]
				*list = change(*list)
				isNoSum(t, fmt.Sprint("RayleighOf a list of ", len(*list)))(impl.RayleighOf(c.s, bad))
			}
		}
	}
	c := plainScene(4, 5, false, 0.5, 0).with(map[int]float32{5: 1})
	for i, free := range []bool{false, false, false, false, false, true, true, false} {
		other := c.with(map[int]float32{i: 2})
		_, ok := impl.RayleighOf(other.s, other.f)
		is(t, fmt.Sprint("RayleighOf with E at ", i), ok, free)
	}
}

// The numbers of this table are those of the second program.
func TestTurnsOfRayleighNumbers(t *testing.T) {
	for _, c := range []struct{ r, want uint32 }{
		{0x00000000, 0x00000000}, // 0
		{0x80000000, 0x00000000}, // -0
		{0x00000001, 0x00000000}, // the least number: a quarter of it is 0
		{0x00000002, 0x00000000},
		{0x00000003, 0x19667b21},
		{0x007fffff, 0x1ea2f983},
		{0x00800000, 0x1ea2f983},
		{0x33800000, 0x3822f983}, // 2 to the power of -24
		{0x3dcccccd, 0x3d4f0468}, // 0.1
		{0x3f000000, 0x3deb9321}, // 0.5
		{0x3f800000, 0x3e2aaaab}, // 1
		{0x3fc00000, 0x3e56d1cc}, // 1.5
		{0x40000000, 0x3e800000}, // 2
		{0x40400000, 0x3eaaaaab}, // 3
		{0x40490fdb, 0x3eb18066}, // 3.1415927
		{0x40600000, 0x3ec51b38}, // 3.5
		{0x407fffff, 0x3efff5d0}, // just less than 4
		{0x40800000, 0x3f000000}, // 4
	} {
		isSumOf(t, fmt.Sprint("TurnsOfRayleigh ", numberOf(c.r)), numberOf(c.want))(impl.TurnsOfRayleigh(numberOf(c.r)))
	}
	for _, r := range append([]float32{-least, -1, -4, -math.MaxFloat32, numberOf(0x40800001), 5, math.MaxFloat32, infinity, -infinity}, someNotANumbers...) {
		isNoSum(t, fmt.Sprint("TurnsOfRayleigh ", r))(impl.TurnsOfRayleigh(r))
	}
}

func TestTurnsOfManyRayleighNumbers(t *testing.T) {
	source, got := numbers{437}, newDigest
	for range 5000 {
		r := picked(&source, []float32{part(&source) * 4, part(&source), special(&source)})
		got = got.withOutcome(impl.TurnsOfRayleigh(r))
	}
	is(t, "the digest of turns", got, 0xbb24dda034dba66f)
}
