package tests

import (
	"fmt"
	"math"
	"testing"

	"loop.example/g01201/impl"
)

func TestTurnsOfWavesThatTravel(t *testing.T) {
	for _, c := range []turnsCase{
		{4, 3, 1, 0, 0x3f000000, 0x3deb9321},     // 0.11502672
		{4, 3, -1, 0, 0x3f000000, 0x3deb9321},    // 0.11502672
		{4, 3, 0, 1, 0x3f000000, 0x3e11f87e},     // 0.14254948
		{4, 3, 0, -1, 0x3f000000, 0x3e11f87e},    // 0.14254948
		{4, 3, 2, 1, 0x3f000000, 0x3e6b9322},     // 0.23005345
		{4, 3, -2, 1, 0x3f000000, 0x3e6b9322},    // 0.23005345
		{4, 4, 2, 2, 0x3f000000, 0x3e800000},     // 0.25
		{4, 4, 2, -2, 0x3f000000, 0x3e800000},    // 0.25
		{3, 3, 1, 1, 0x3f000000, 0x3e56d1cc},     // 0.20978469
		{3, 3, 3, 3, 0x3f000000, 0x00000000},     // 0
		{3, 3, -3, 0, 0x3f000000, 0x00000000},    // 0
		{3, 3, 8, -8, 0x3f000000, 0x3e56d1ca},    // 0.20978466
		{4, 3, 8, 6, 0x3f000000, 0x00000000},     // 0
		{4, 3, 8, -8, 0x3f000000, 0x3e11f87c},    // 0.14254946
		{4, 3, 4, 0, 0x3f000000, 0x00000000},     // 0
		{16, 16, 1, 0, 0x3f000000, 0x3cfec36b},   // 0.031099042
		{16, 16, 8, 8, 0x3f000000, 0x3e800000},   // 0.25
		{16, 16, -8, -8, 0x3f000000, 0x3e800000}, // 0.25
		{16, 16, 0, -8, 0x3e99999a, 0x3e01a13e},  // 0.12659165
		{16, 3, 8, -8, 0x3f000000, 0x3e6b9321},   // 0.23005344
		{3, 16, -8, 8, 0x3ecccccd, 0x3e4e57c2},   // 0.20150664
		{5, 5, 5, 5, 0x3f000000, 0x00000000},     // 0
		{7, 9, 2, -3, 0x3ee66666, 0x3e3f294b},    // 0.18668096
		{9, 7, -3, 2, 0x3ee66666, 0x3e3f294b},    // 0.18668096
		{11, 6, 5, -4, 0x3d800000, 0x3d98f6c0},   // 0.07468939
		{13, 10, -7, 6, 0x3e4ccccd, 0x3e12985d},  // 0.14315934
		// Speeds of zero, subnormal ones, and others at limits.
		{5, 5, 1, 1, 0x00000000, 0x00000000},
		{5, 5, 1, -1, 0x80000000, 0x00000000},
		{4, 4, 2, 2, 0x00000001, 0x00000000},
		{4, 4, 2, 2, 0x00000002, 0x19a2f983},
		{4, 4, 2, 2, 0x00000003, 0x19e67b21},
		{4, 4, 2, 2, 0x00000005, 0x19e67b21},
		{6, 6, -1, 1, 0x33800000, 0x3822f983},
		{6, 6, 1, -1, 0x3effffff, 0x3deb9321},
	} {
		isSumOf(t, fmt.Sprint("TravelTurns ", c), numberOf(c.want))(impl.TravelTurns(c.wide, c.high, c.m, c.n, numberOf(c.speed)))
	}
}

// The digests of this file are those of a second program, in another language,
// that follows the document.
func TestTurnsOfAllWavesThatTravel(t *testing.T) {
	source, got := numbers{420}, newDigest
	for _, side := range someSides {
		wide, high := side[0], side[1]
		eachTravel(func(m, n int64) {
			speed := picked(&source, []float32{0.5, 0.25, part(&source) / 2, part(&source) / 2})
			isSumOf(t, fmt.Sprint("TravelTurns ", wide, high, m, n, speed), travelTurnsOf(wide, high, m, n, speed))(impl.TravelTurns(wide, high, m, n, speed))
			got = got.withOutcome(impl.TravelTurns(wide, high, m, n, speed))
		})
	}
	is(t, "the digest of turns", got, 0x2e87f99df80a3ea3)
}

// isTravel checks all three lists of a wave that travels.
func isTravel(t *testing.T, s impl.Sheet, m, n int64, size, turns float32, want [3][]uint32) {
	t.Helper()
	f := blankField(s)
	for k, list := range listsOf(f) {
		for i := range list {
			list[i] = numberOf(want[k][i])
		}
	}
	got, ok := impl.TravelField(s, m, n, size, turns)
	isField(t, fmt.Sprint("TravelField ", s.Wide, s.High, m, n, size, turns), got, ok, f)
}

// The numbers of these tables are those of the second program.
func TestWavesThatTravel(t *testing.T) {
	isTravel(t, plainSheet(4, 3, true, 0.5), 1, 0, 1, 0, [3][]uint32{
		{0x00000000, 0x3f800000, 0x80000000, 0xbf800000, 0x00000000, 0x3f800000, 0x80000000, 0xbf800000, 0x00000000, 0x3f800000, 0x80000000, 0xbf800000},
		{0x00000000, 0x00000000, 0x80000000, 0x80000000, 0x00000000, 0x00000000, 0x80000000, 0x80000000, 0x00000000, 0x00000000, 0x80000000, 0x80000000},
		{0xbf6953ff, 0xbed2a7fe, 0x3f6953ff, 0x3ed2a7fe, 0xbf6953ff, 0xbed2a7fe, 0x3f6953ff, 0x3ed2a7fe, 0xbf6953ff, 0xbed2a7fe, 0x3f6953ff, 0x3ed2a7fe},
	})
	isTravel(t, plainSheet(4, 3, true, 0.5), 0, 1, 1, 0, [3][]uint32{
		{0x00000000, 0x00000000, 0x00000000, 0x00000000, 0x3f5db3d7, 0x3f5db3d7, 0x3f5db3d7, 0x3f5db3d7, 0xbf5db3d8, 0xbf5db3d8, 0xbf5db3d8, 0xbf5db3d8},
		{0x3f7f43fc, 0x3f7f43fc, 0x3f7f43fc, 0x3f7f43fc, 0xbeddb3db, 0xbeddb3db, 0xbeddb3db, 0xbeddb3db, 0xbf106a0b, 0xbf106a0b, 0xbf106a0b, 0xbf106a0b},
		{0x80000000, 0x80000000, 0x80000000, 0x80000000, 0x80000000, 0x80000000, 0x80000000, 0x80000000, 0x00000000, 0x00000000, 0x00000000, 0x00000000},
	})
	isTravel(t, plainSheet(3, 4, true, 0.25), -1, 2, -2, 0.25, [3][]uint32{
		{0xc0000000, 0x3f800001, 0x3f7ffffc, 0x40000000, 0xbf800001, 0xbf7ffffc, 0xc0000000, 0x3f800004, 0x3f7ffffc, 0x40000000, 0xbf800004, 0xbf7ffff1},
		{0x3f800002, 0xc008be9d, 0x3f917d3c, 0xbf800002, 0x4008be9d, 0xbf917d3d, 0x3f800002, 0xc008be9d, 0x3f917d3a, 0xbf7fffed, 0x4008be9d, 0xbf917d40},
		{0xbfc8be9d, 0x3fd17d3b, 0xbd8be9ee, 0x3fc8be9d, 0xbfd17d3b, 0x3d8bea11, 0xbfc8be9b, 0x3fd17d3a, 0xbd8bea1c, 0x3fc8bea1, 0xbfd17d3a, 0x3d8be9ee},
	})
	isTravel(t, plainSheet(3, 3, true, 0.5), 8, -8, 3, -0.375, [3][]uint32{
		{0xc007c3b6, 0x4039752e, 0xbf46c5b5, 0xbf46c5fd, 0xc007c3b6, 0x4039752e, 0x40397533, 0xbf46c5fd, 0xc007c3b6},
		{0xbfa44fff, 0xbf521ae0, 0x4006aeb3, 0x4006aeb3, 0xbfa44ff4, 0xbf521af9, 0xbf521a7f, 0x4006aeb3, 0xbfa45009},
		{0xbf521ae0, 0x4006aeb3, 0xbfa44fea, 0xbfa44fff, 0xbf521ac8, 0x4006aeb3, 0x4006aeb3, 0xbfa45009, 0xbf521af9},
	})
}

// Turns that are great have no part of one left, and what is added to them is lost.
func TestWavesWithGreatTurns(t *testing.T) {
	s := plainSheet(4, 4, true, 0.5)
	zeros := [3][]uint32{repeated[uint32](0, 16), repeated[uint32](0, 16), repeated[uint32](0x80000000, 16)}
	for _, turns := range []float32{1e30, -1e30, math.MaxFloat32, -math.MaxFloat32, 1 << 52, 1 << 40, -1 << 40} {
		isTravel(t, s, 1, 1, 1, turns, zeros)
	}
	isTravel(t, s, 1, 1, -1, 1e30, [3][]uint32{repeated[uint32](0x80000000, 16), repeated[uint32](0x80000000, 16), repeated[uint32](0, 16)})
	isTravel(t, s, 1, -1, 1, 1e30, [3][]uint32{repeated[uint32](0, 16), repeated[uint32](0x80000000, 16), repeated[uint32](0x80000000, 16)})
}

// Sizes of zero leave zeros alone, the signs of which follow the sines.
func TestWavesOfNoSize(t *testing.T) {
	for _, size := range []float32{0, negativeZero} {
		eachTravel(func(m, n int64) {
			s := plainSheet(5, 6, true, 0.25)
			want, isWave := travelOf(s, m, n, size, 0.1)
			got, ok := impl.TravelField(s, m, n, size, 0.1)
			is(t, fmt.Sprint("TravelField ", m, n, size), told(got, ok), told(want, isWave))
			for _, list := range listsOf(got) {
				for _, x := range list {
					is(t, "a zero", x, 0)
				}
			}
		})
	}
}

// With a small speed, X and Y become too great, and where the sine is zero, they
// are not-a-numbers.
func TestWavesThatAreTooGreat(t *testing.T) {
	down, up, inf := uint32(0xff800000), uint32(0x7f800000), uint32(0x7f800000)
	s := plainSheet(4, 4, true, 3*least)
	e := []uint32{0x00000000, 0x7149f2ca, 0x80000000, 0xf149f2ca}
	x := []uint32{0, 0, 0x80000000, 0x80000000}
	y := []uint32{down, down, up, up}
	four := func(row []uint32) []uint32 {
		return append(append(append(append([]uint32{}, row...), row...), row...), row...)
	}
	isTravel(t, s, 1, 0, 1e30, 0, [3][]uint32{four(e), four(x), four(y)})
	most := float32(math.MaxFloat32)
	got, ok := impl.TravelField(s, 1, 1, most, 0)
	want, _ := travelOf(s, 1, 1, most, 0)
	isField(t, "the greatest size", got, ok, want)
	is(t, "X is infinite", bitsOf(got.X[0]), inf)
	none := travelFor(t, s, 1, 1, most, 1e30)
	is(t, "X is a not-a-number", told(none.X), told(repeated(notANumber, 16)))
	is(t, "Y is a not-a-number", told(none.Y), told(repeated(notANumber, 16)))
	is(t, "E is not", told(none.E), told(repeated[float32](0, 16)))
}

func TestWavesThatTravelAreWhatTheDocumentTells(t *testing.T) {
	source := numbers{421}
	eachShape(func(wide, high int64, wrap bool) {
		for range 2 {
			s := plainSheet(wide, high, true, picked(&source, []float32{0.5, 0.25, least, 2 * least, (1 - part(&source)) / 2}))
			m, n := below(&source, 17)-maxOrder, below(&source, 17)-maxOrder
			if m == 0 && n == 0 {
				continue
			}
			size, turns := picked(&source, someSizes), anyTurns(&source)
			what := fmt.Sprint("TravelField ", wide, high, m, n, size, turns, s.Speeds[0])
			isResult[impl.Field](t, what, toldTwo(travelOf(s, m, n, size, turns)))(impl.TravelField(s, m, n, size, turns))
		}
	})
}

func TestWavesThatTravelToTheLastBit(t *testing.T) {
	source, got := numbers{422}, newDigest
	for _, side := range someSides {
		for range 40 {
			speed := picked(&source, []float32{0.5, 0.25, least, (1 - part(&source)) / 2, (1 - part(&source)) / 2})
			m := below(&source, 17) - maxOrder
			n := below(&source, 17) - maxOrder
			size := picked(&source, someSizes)
			turns := picked(&source, []float32{0, near(&source), near(&source) * 4, ordinary(&source)})
			got = got.withMade(impl.TravelField(plainSheet(side[0], side[1], true, speed), m, n, size, turns))
		}
	}
	is(t, "the digest of waves that travel", got, 0x018a4bb7f12aa134)
}

// Orders that are multiples of both sides stand still, and so does what is slow
// beyond all numbers.
func TestWavesThatStandStill(t *testing.T) {
	for _, side := range [][2]int64{{3, 3}, {4, 3}, {3, 4}, {4, 4}, {5, 7}, {8, 3}, {8, 8}, {9, 4}, {16, 16}} {
		for _, speed := range []float32{0.5, 0.1} {
			s := plainSheet(side[0], side[1], true, speed)
			eachTravel(func(m, n int64) {
				_, ok := impl.TravelField(s, m, n, 1, 0.125)
				is(t, fmt.Sprint("TravelField ", side, m, n, " travels"), ok, m%side[0] != 0 || n%side[1] != 0)
			})
		}
	}
	isNothing[impl.Field](t, "the least speed")(impl.TravelField(plainSheet(4, 4, true, least), 2, 2, 1, 0))
	isNothing[impl.Field](t, "a sine that is small")(impl.TravelField(plainSheet(16, 3, true, 2*least), 1, 0, 1, 0))
	travelFor(t, plainSheet(4, 4, true, 2*least), 2, 2, 1, 0)
}

func TestWavesThatDoNotTravel(t *testing.T) {
	s := plainSheet(5, 4, true, 0.5)
	no := func(what string, s impl.Sheet, m, n int64, size, turns float32) {
		t.Helper()
		isNothing[impl.Field](t, "TravelField "+what)(impl.TravelField(s, m, n, size, turns))
	}
	travelFor(t, s, 1, 1, 1, 0)
	no("orders of 0", s, 0, 0, 1, 0)
	for _, bad := range noOrders {
		for _, good := range []int64{0, 1, -1, maxOrder, -maxOrder} {
			no(fmt.Sprint("order ", bad), s, bad, good, 1, 0)
			no(fmt.Sprint("order ", bad), s, good, bad, 1, 0)
			isNothing[float32](t, fmt.Sprint("TravelTurns ", bad))(impl.TravelTurns(5, 4, bad, good, 0.5))
			isNothing[float32](t, fmt.Sprint("TravelTurns ", bad))(impl.TravelTurns(5, 4, good, bad, 0.5))
		}
		no(fmt.Sprint("orders ", bad), s, bad, bad, 1, 0)
	}
	for _, bad := range notFinite {
		no("a size", s, 1, 1, bad, 0)
		no("turns", s, 1, 1, 1, bad)
		no("both", s, 1, 1, bad, bad)
	}
	no("walls", plainSheet(5, 4, false, 0.5), 1, 1, 1, 0)
	for k, bad := range append(badSheets(true), badSheets(false)...) {
		no(fmt.Sprint("a bad sheet ", k), bad, 1, 1, 1, 0)
	}
}

func TestSheetsInWhichNoWaveTravels(t *testing.T) {
	for _, speed := range append([]float32{0, negativeZero}, noSpeeds...) {
		isNothing[impl.Field](t, fmt.Sprint("TravelField with ", speed))(impl.TravelField(plainSheet(5, 4, true, speed), 1, 1, 1, 0))
	}
	for i := range 20 {
		for _, other := range []float32{0, negativeZero, 0.25, least, 0.49999997, notANumber} {
			s := plainSheet(5, 4, true, 0.5)
			s.Speeds[i] = other
			isNothing[impl.Field](t, fmt.Sprint("a speed of ", other, " at ", i))(impl.TravelField(s, 1, 1, 1, 0))
		}
		for _, loss := range []float32{negativeZero, least, 0.5, 1, notANumber} {
			s := plainSheet(5, 4, true, 0.5)
			s.Losses[i] = loss
			isNothing[impl.Field](t, fmt.Sprint("a loss of ", loss, " at ", i))(impl.TravelField(s, 1, 1, 1, 0))
		}
	}
	s := plainSheet(5, 4, true, 0.5)
	s.Losses = repeated(negativeZero, 20)
	isNothing[impl.Field](t, "losses of -0")(impl.TravelField(s, 1, 1, 1, 0))
}
