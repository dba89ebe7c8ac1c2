package tests

import (
	"cmp"
	"fmt"
	"math"
	"slices"
	"testing"

	"loop.example/g01201/impl"
)

func TestExamplesOfModes(t *testing.T) {
	s := plainSheet(3, 3, false, 0.5)
	f, ok := impl.ModeField(s, 1, 1, 1)
	want := blankField(s)
	want.E[4] = 1
	isField(t, "the mode of the example", f, ok, want)
	isSumOf(t, "its Rayleigh number", 1)(impl.RayleighOf(s, f))
}

// isModeOf checks the numbers of E that a mode has where there is no border, row
// by row.
func isModeOf(t *testing.T, wide, high, m, n int64, size float32, inner ...float32) {
	t.Helper()
	s := plainSheet(wide, high, false, 0.25)
	want := blankField(s)
	for y := int64(1); y < high-1; y++ {
		copy(want.E[1+wide*y:], inner[:wide-2])
		inner = inner[wide-2:]
	}
	f, ok := impl.ModeField(s, m, n, size)
	isField(t, fmt.Sprint("ModeField ", wide, high, m, n, size), f, ok, want)
}

// The sines of an eighth of a turn are about 0.70710677; the square is 2 to the
// power of -25 less than 0.5.
func TestModesOfSomeSheets(t *testing.T) {
	h, q, z, most := numberOf(0x3f3504f3), numberOf(0x3effffff), negativeZero, float32(math.MaxFloat32)
	isModeOf(t, 3, 3, 1, 1, 1, 1)
	isModeOf(t, 3, 3, 1, 1, -7.5, -7.5)
	isModeOf(t, 5, 5, 1, 1, 1, q, h, q, h, 1, h, q, h, q)
	isModeOf(t, 5, 5, 1, 1, -4, -4*q, -4*h, -4*q, -4*h, -4, -4*h, -4*q, -4*h, -4*q)
	isModeOf(t, 5, 5, 2, 1, 1, h, z, -h, 1, z, -1, h, z, -h)
	isModeOf(t, 5, 5, 1, 2, 1, h, 1, h, z, z, z, -h, -1, -h)
	isModeOf(t, 5, 5, 1, 2, -2, -2*h, -2, -2*h, 0, 0, 0, 2*h, 2, 2*h)
	isModeOf(t, 5, 5, 2, 2, 1, 1, z, -1, z, 0, 0, -1, 0, 1)
	isModeOf(t, 5, 3, 3, 1, 1, h, -1, h)
	isModeOf(t, 3, 5, 1, 3, 1, h, -1, h)
	isModeOf(t, 5, 3, 2, 3, 8, -8, 0, 8)
	isModeOf(t, 5, 5, 1, 1, least, repeated(least, 9)...)
	isModeOf(t, 5, 5, 1, 1, -least, repeated(-least, 9)...)
	isModeOf(t, 5, 5, 1, 1, most, most*q, numberOf(0x7f3504f2), most*q, numberOf(0x7f3504f2), most, numberOf(0x7f3504f2), most*q, numberOf(0x7f3504f2), most*q)
	isModeOf(t, 4, 3, 1, 1, 1, numberOf(0x3f5db3d8), numberOf(0x3f5db3d7))
	isModeOf(t, 4, 4, 1, 1, 1, numberOf(0x3f400001), 0.75, 0.75, 0.75)
}

// The size is multiplied by one sine after the other: half of the least number is
// zero, but a number just greater than a half of it becomes it, also twice.
func TestModesOfTheLeastSize(t *testing.T) {
	o, i := float32(0), least
	isModeOf(t, 7, 7, 1, 1, least,
		o, o, o, o, o,
		o, i, i, i, i,
		o, i, i, i, i,
		o, i, i, i, i,
		o, i, i, i, i)
}

// Orders that are multiples of Wide - 1 or High - 1 have zeros alone. Sines of
// half turns are -0, and those of whole ones are +0.
func TestModesOfZeros(t *testing.T) {
	z, most := negativeZero, float32(math.MaxFloat32)
	for _, c := range []struct {
		m, n       int64
		size, want float32
	}{
		{2, 1, 1, z}, {2, 1, -1, 0}, {1, 2, 1, z}, {1, 2, -1, 0}, {2, 2, 1, 0}, {2, 2, -1, z}, {2, 4, 1, z}, {4, 2, 1, z},
		{4, 1, 1, 0}, {4, 1, -1, z}, {1, 4, 1, 0}, {1, 4, -1, z}, {4, 4, 1, 0}, {4, 4, -1, z}, {6, 1, 1, z}, {8, 1, 1, 0},
		{8, 8, 1, 0}, {8, 8, -1, z}, {6, 6, 1, 0}, {6, 8, 1, z}, {8, 6, most, z}, {8, 6, -most, 0}, {8, 8, least, 0},
		{3, 2, 1, 0}, {3, 4, 1, z}, {3, 2, -1, z},
		{1, 1, 0, 0}, {1, 1, z, z}, {3, 1, 0, z}, {3, 1, z, 0}, {1, 3, 0, z}, {3, 3, 0, 0}, {3, 3, z, z}, {2, 2, 0, 0}, {2, 2, z, z}, {2, 1, 0, z}, {2, 1, z, 0},
	} {
		isModeOf(t, 3, 3, c.m, c.n, c.size, c.want)
	}
	isModeOf(t, 4, 5, 3, 1, 1, z, 0, z, 0, z, 0)
	isModeOf(t, 4, 5, 6, 1, 1, repeated[float32](0, 6)...)
}

func TestSizesThatAreZero(t *testing.T) {
	for _, size := range []float32{0, negativeZero} {
		eachMode(func(m, n int64) {
			f := modeFor(t, plainSheet(6, 7, false, 0.5), m, n, size)
			for i, x := range f.E {
				is(t, fmt.Sprint("a zero at ", i), x, 0)
			}
		})
	}
}

// Modes of the greatest orders, in the only row that is not in the border; the
// rows come from a second program, in another language, that follows the document.
func TestModesOfTheGreatestOrders(t *testing.T) {
	for m, bits := range map[int64][]uint32{
		1: {0x3e54e6ce, 0x3ed03fca, 0x3f167918, 0x3f3e3ebe, 0x3f5db3d8, 0x3f737871, 0x3f7e98fd, 0x3f7e98fd, 0x3f737870, 0x3f5db3d7, 0x3f3e3ebd, 0x3f167918, 0x3ed03fc8, 0x3e54e6cd},
		5: {0x3f5db3d8, 0x3f5db3d7, 0x80000000, 0xbf5db3d8, 0xbf5db3d8, 0x00000000, 0x3f5db3d5, 0x3f5db3d5, 0x80000000, 0xbf5db3d5, 0xbf5db3d5, 0x00000000, 0x3f5db3db, 0x3f5db3db},
		7: {0x3f7e98fd, 0x3e54e6cd, 0xbf737870, 0xbed03fc8, 0x3f5db3d5, 0x3f16791a, 0xbf3e3ebd, 0xbf3e3ebd, 0x3f167910, 0x3f5db3db, 0xbed03fbd, 0xbf737872, 0x3e54e6c0, 0x3f7e98fd},
		8: {0x3f7e98fd, 0xbe54e6d9, 0xbf737870, 0x3ed03fd4, 0x3f5db3d5, 0xbf16791a, 0xbf3e3ebd, 0x3f3e3ec5, 0x3f167910, 0xbf5db3db, 0xbed03fbd, 0x3f737872, 0x3e54e6c0, 0xbf7e98fd},
	} {
		var want []float32
		for _, b := range bits {
			want = append(want, numberOf(b))
		}
		isModeOf(t, 16, 3, m, 1, 1, want...)
		isModeOf(t, 3, 16, 1, m, 1, want...)
	}
}

func TestModesAreWhatTheDocumentTells(t *testing.T) {
	source := numbers{400}
	eachShape(func(wide, high int64, wrap bool) {
		if wrap {
			return
		}
		s := anySheet(&source, wide, high, false)
		for range 4 {
			m, n, size := 1+below(&source, maxOrder), 1+below(&source, maxOrder), picked(&source, someSizes)
			f, ok := impl.ModeField(s, m, n, size)
			isField(t, fmt.Sprint("ModeField ", wide, high, m, n, size), f, ok, modeOf(s, m, n, size))
		}
	})
}

// The digests of this file are those of the second program.
func TestModesToTheLastBit(t *testing.T) {
	got, k := newDigest, 0
	for _, side := range someSides {
		s := plainSheet(side[0], side[1], false, 0.5)
		eachMode(func(m, n int64) {
			got = got.withMade(impl.ModeField(s, m, n, someSizes[k%len(someSizes)]))
			k++
		})
	}
	is(t, "the digest of modes", got, 0xf365a14c182542f3)
}

func TestModesThatAreRefused(t *testing.T) {
	c := plainScene(5, 4, false, 0.5, 0).with(map[int]float32{6: 1, 12: 2})
	refused := append([]int64{0, -1, -2, -maxOrder}, noOrders...)
	for _, bad := range refused {
		for _, good := range []int64{1, 2, maxOrder} {
			refusesModes(t, "orders", c, bad, good)
			refusesModes(t, "orders", c, good, bad)
		}
		refusesModes(t, "orders", c, bad, bad)
	}
	for _, size := range notFinite {
		isNothing[impl.Field](t, "ModeField with a size")(impl.ModeField(c.s, 1, 1, size))
	}
	joined := c
	joined.s.Wrap = true
	refusesModes(t, "joined edges", joined, 1, 1)
	for k, s := range append(badSheets(false), badSheets(true)...) {
		refusesModes(t, fmt.Sprint("a bad sheet ", k), scene{s, c.f}, 1, 1)
		refusesModes(t, fmt.Sprint("a bad sheet ", k), scene{s, blankField(plainSheet(4, 5, false, 0))}, 2, 1)
	}
}

// turnsCase is one of a table of the second program.
type turnsCase struct {
	wide, high, m, n int64
	speed, want      uint32
}

func TestTurnsOfModes(t *testing.T) {
	for _, c := range []turnsCase{
		{3, 3, 1, 1, 0x3f000000, 0x3e2aaaaa},   // 0.16666666
		{3, 3, 2, 2, 0x3f000000, 0x3e800000},   // 0.25
		{3, 3, 1, 2, 0x3f000000, 0x3e56d1cc},   // 0.20978469
		{3, 3, 2, 4, 0x3f000000, 0x3e2aaaab},   // 0.16666667
		{3, 3, 4, 4, 0x3f000000, 0x00000000},   // 0
		{3, 3, 8, 8, 0x3f000000, 0x00000000},   // 0
		{3, 3, 8, 1, 0x3f000000, 0x3deb9321},   // 0.11502672
		{3, 3, 5, 6, 0x3e800000, 0x3e11f87e},   // 0.14254948
		{3, 3, 3, 7, 0x3e000000, 0x3da4b8cf},   // 0.08043062
		{4, 3, 1, 1, 0x3f000000, 0x3e11f87e},   // 0.14254948
		{4, 3, 3, 1, 0x3f000000, 0x3e56d1cc},   // 0.20978469
		{4, 3, 6, 2, 0x3f000000, 0x3e2aaaab},   // 0.16666667
		{3, 4, 1, 3, 0x3f000000, 0x3e56d1cc},   // 0.20978469
		{5, 5, 1, 1, 0x3f000000, 0x3db2a126},   // 0.08722143
		{5, 5, 4, 4, 0x3f000000, 0x3e800000},   // 0.25
		{5, 5, 8, 8, 0x3f000000, 0x00000000},   // 0
		{5, 5, 8, 7, 0x3f000000, 0x3d7b04ca},   // 0.061283864
		{16, 16, 1, 1, 0x3f000000, 0x3cc0e918}, // 0.023548648
		{16, 16, 8, 8, 0x3f000000, 0x3e345790}, // 0.17611527
		{16, 16, 1, 8, 0x3e99999a, 0x3dc0400f}, // 0.09387218
		{16, 3, 8, 8, 0x3f000000, 0x3df82de1},  // 0.12118126
		{3, 16, 8, 8, 0x3ecccccd, 0x3ddcdb09},  // 0.10783965
		{16, 3, 1, 4, 0x3f000000, 0x3c885898},  // 0.016643807
		{7, 9, 2, 3, 0x3ee66666, 0x3dec4310},   // 0.11536229
		{9, 7, 3, 2, 0x3ee66666, 0x3dec4310},   // 0.11536229
		{11, 6, 5, 4, 0x3d800000, 0x3d8997d4},  // 0.06718412
		{13, 10, 7, 6, 0x3e4ccccd, 0x3df80f9c}, // 0.12112352
		{8, 8, 7, 7, 0x3f000000, 0x3e800000},   // 0.25
		{9, 9, 8, 8, 0x3f000000, 0x3e800000},   // 0.25
		// Speeds of zero, subnormal ones, and others at limits.
		{5, 5, 1, 1, 0x00000000, 0x00000000},
		{5, 5, 1, 1, 0x80000000, 0x00000000},
		{3, 3, 8, 8, 0x80000000, 0x00000000},
		{5, 5, 2, 3, 0x00000001, 0x00000000},
		{5, 5, 4, 4, 0x00000001, 0x00000000},
		{5, 5, 4, 4, 0x00000002, 0x19a2f983},
		{5, 5, 4, 4, 0x00000003, 0x19e67b21},
		{5, 5, 4, 4, 0x00000005, 0x19e67b21},
		{4, 6, 3, 5, 0x007fffff, 0x1f22f983},
		{4, 6, 3, 5, 0x00800000, 0x1f22f983},
		{16, 16, 1, 1, 0x00800000, 0x1d8848c3},
		{6, 6, 1, 1, 0x33800000, 0x37c972a1},
		{6, 6, 1, 1, 0x3effffff, 0x3d8f9a8a},
	} {
		isSumOf(t, fmt.Sprint("ModeTurns ", c), numberOf(c.want))(impl.ModeTurns(c.wide, c.high, c.m, c.n, numberOf(c.speed)))
	}
}

func TestTurnsOfAllModes(t *testing.T) {
	source, got := numbers{401}, newDigest
	eachShape(func(wide, high int64, wrap bool) {
		if wrap {
			return
		}
		eachMode(func(m, n int64) {
			speed := picked(&source, []float32{0.5, 0.25, part(&source) / 2, part(&source) / 2})
			isSumOf(t, fmt.Sprint("ModeTurns ", wide, high, m, n, speed), modeTurnsOf(wide, high, m, n, speed))(impl.ModeTurns(wide, high, m, n, speed))
			got = got.withOutcome(impl.ModeTurns(wide, high, m, n, speed))
		})
	})
	is(t, "the digest of turns", got, 0x3711a81749bb3df8)
}

// refusesTurns checks that both functions that tell turns refuse something.
func refusesTurns(t *testing.T, wide, high, m, n int64, speed float32) {
	t.Helper()
	what := fmt.Sprint(wide, high, m, n, speed)
	isNothing[float32](t, "ModeTurns "+what)(impl.ModeTurns(wide, high, m, n, speed))
	isNothing[float32](t, "TravelTurns "+what)(impl.TravelTurns(wide, high, m, n, speed))
}

func TestTurnsThatAreRefused(t *testing.T) {
	for _, bad := range noBoxSides {
		for _, good := range []int64{3, 5, maxSide} {
			refusesTurns(t, bad, good, 1, 1, 0.5)
			refusesTurns(t, good, bad, 1, 1, 0.5)
		}
		refusesTurns(t, bad, bad, 1, 1, 0.5)
	}
	for _, bad := range noOrders {
		for _, good := range []int64{1, 2, maxOrder} {
			refusesTurns(t, 5, 4, bad, good, 0.5)
			refusesTurns(t, 5, 4, good, bad, 0.5)
		}
		refusesTurns(t, 5, 4, bad, bad, 0)
	}
	for _, speed := range noSpeeds {
		refusesTurns(t, 5, 4, 1, 1, speed)
	}
	refusesTurns(t, 5, 4, 0, 0, 0.5)
	for _, bad := range []int64{0, -1, -2, -maxOrder} {
		isNothing[float32](t, "ModeTurns")(impl.ModeTurns(5, 4, bad, 1, 0.5))
		isNothing[float32](t, "ModeTurns")(impl.ModeTurns(5, 4, 1, bad, 0.5))
		isNothing[float32](t, "ModeTurns")(impl.ModeTurns(5, 4, bad, bad, 0.5))
	}
}

// isSwing checks SwingOf.
func isSwing(t *testing.T, turns float32, steps int64, want float32) {
	t.Helper()
	isSumOf(t, fmt.Sprint("SwingOf ", turns, " ", steps), want)(impl.SwingOf(turns, steps))
}

func isNoSwing(t *testing.T, turns float32, steps int64) {
	t.Helper()
	isNothing[float32](t, fmt.Sprint("SwingOf ", turns, " ", steps))(impl.SwingOf(turns, steps))
}

// Each number that is wanted here has been found by hand.
func TestSwings(t *testing.T) {
	for _, steps := range []int64{0, 1, 2, 3, 7, 64, 999999, maxTicks} {
		for _, turns := range []float32{0, negativeZero, 1, -1, 2, -3} {
			isSwing(t, turns, steps, 1)
		}
	}
	isSwing(t, least, maxTicks, 1)
	for _, turns := range []float32{0.25, -0.25, 1.25, -0.75, 2.25} {
		for steps, want := range []float32{1, -1, -1, 1, 1, -1, -1, 1} {
			isSwing(t, turns, int64(steps), want)
		}
	}
	for _, turns := range []float32{0.25, -0.25} {
		isSwing(t, turns, 999999, 1)
		isSwing(t, turns, maxTicks, 1)
		isSwing(t, turns, 999998, -1)
	}
	isSwing(t, 0x1p20, 0, 1)
	isSwing(t, 0x1p20, 1, 1)
	isSwing(t, -0x1p20, 1, 1)
	isSwing(t, 0x1p20, 7, 0)
	isSwing(t, 0x1p21, maxTicks, 0)
	isSwing(t, 0x1p19+0.25, 0, 1)
	isSwing(t, 0x1p19+0.25, 1, -1)
}

// The numbers of this table are those of the second program.
func TestSwingsToTheLastBit(t *testing.T) {
	for _, c := range []struct {
		turns uint32
		steps int64
		want  uint32
	}{
		{0x3e000000, 1, 0x3ed413cd},       // 0.125
		{0x3e2aaaab, 0, 0x3f800000},       // 1/6
		{0x3e2aaaab, 1, 0x80000000},       // 1/6
		{0x3e2aaaab, 7, 0x80000000},       // 1/6
		{0x3e2aaaab, 1000000, 0x00000000}, // 1/6
		{0xbe2aaaab, 1, 0xb3682a95},       // -1/6
		{0xbe2aaaab, 7, 0x00000000},       // -1/6
		{0xbe2aaaab, 1000000, 0x80000000}, // -1/6
		{0x3dcccccd, 1, 0x3f1e377a},       // 0.1
		{0x3dcccccd, 7, 0x00000000},       // 0.1
		{0x3dcccccd, 1000000, 0x3f7d7083}, // 0.1
		{0xbdcccccd, 1, 0x3f1e3779},       // -0.1
		{0xbdcccccd, 7, 0x80000000},       // -0.1
		{0xbdcccccd, 1000000, 0x3f7d7082}, // -0.1
		{0x3eaaaaab, 1, 0xc0000002},       // 1/3
		{0x3eaaaaab, 1000000, 0xc0000002}, // 1/3
		{0x3f000002, 1, 0xc0800000},       // 0.5000001
		{0x3f000002, 1000000, 0x49e67b21}, // 0.5000001
		{0xbeffffff, 1, 0xc0800000},       // -0.49999997
		{0xbeffffff, 1000000, 0x49fe5bb5}, // -0.49999997
		{0x40100000, 1000000, 0x80000000}, // 2.25
		{0x3f9e0651, 1, 0xbf4e6eb8},       // 1.2345678
		{0x3f9e0651, 7, 0x3da0c8c8},       // 1.2345678
		{0x3f9e0651, 1000000, 0x3f7470e0}, // 1.2345678
		{0xc47a0800, 1, 0x3ed413cd},       // -1000.125
		{0x447a0800, 1000000, 0x00000000}, // 1000.125
		{0x3a83126f, 1, 0x3f7ffd6a},       // 0.001
		{0x3a83126f, 1000000, 0x3f7fffef}, // 0.001
		{0x2edbe6ff, 1000000, 0x3f7ffffd}, // 1e-10
		{0x49000004, 7, 0x00000000},       // 524288.25
	} {
		isSwing(t, numberOf(c.turns), c.steps, numberOf(c.want))
	}
}

func TestManySwings(t *testing.T) {
	source, got := numbers{402}, newDigest
	for range 20000 {
		turns := picked(&source, []float32{near(&source), near(&source) * 4, ordinary(&source), special(&source)})
		steps := below(&source, maxTicks+1)
		if below(&source, 2) == 0 {
			steps = below(&source, 65)
		}
		isResult[float32](t, fmt.Sprint("SwingOf ", turns, " ", steps), toldTwo(swingOf(turns, steps)))(impl.SwingOf(turns, steps))
		got = got.withOutcome(impl.SwingOf(turns, steps))
	}
	is(t, "the digest of swings", got, 0xa45a72b7ac245b22)
}

// A divisor is a zero where half of the turns, with a quarter of one, are halves
// of a turn; great turns are such ones, or their arguments too great.
func TestSwingsThatAreNone(t *testing.T) {
	most := float32(math.MaxFloat32)
	for _, turns := range []float32{0.5, -0.5, 1.5, -1.5, 2.5, -2.5, 0.49999997, 100.5, 0x1p23, 0x1p24, -0x1p24, 0x1p22 + 0.5, 0x1p60, 1e30, most, -most} {
		for _, steps := range []int64{0, 1, 2, 7, 999999, maxTicks} {
			isNoSwing(t, turns, steps)
		}
	}
	for _, turns := range notFinite {
		isNoSwing(t, turns, 0)
		isNoSwing(t, turns, 1)
	}
	for _, steps := range []int64{-1, -2, -maxTicks, maxTicks + 1, maxTicks + 2, 1 << 32, 1 << 62, math.MaxInt64, math.MinInt64} {
		for _, turns := range []float32{0, 0.1, 0.25, 1} {
			isNoSwing(t, turns, steps)
		}
	}
}

// lowModes sorts all sixteen modes as the document tells.
func lowModes(wide, high int64, speed float32) []impl.Mode {
	var modes []impl.Mode
	for n := int64(4); n >= 1; n-- {
		for m := int64(4); m >= 1; m-- {
			modes = append(modes, impl.Mode{M: m, N: n, Turns: modeTurnsOf(wide, high, m, n, speed)})
		}
	}
	slices.SortFunc(modes, func(a, b impl.Mode) int {
		if a.Turns != b.Turns {
			return cmp.Compare(a.Turns, b.Turns)
		}
		return cmp.Compare(10*a.M+a.N, 10*b.M+b.N)
	})
	return modes
}

func toldModes(modes []impl.Mode, ok bool) string {
	text := fmt.Sprint(len(modes), ok)
	for _, mode := range modes {
		text += " " + told(mode.M, mode.N, mode.Turns)
	}
	return text
}

// isLow checks the orders of all sixteen modes, which are told as numbers of two
// digits.
func isLow(t *testing.T, wide, high int64, speed float32, orders ...int64) {
	t.Helper()
	var want []impl.Mode
	for _, both := range orders {
		m, n := both/10, both%10
		want = append(want, impl.Mode{M: m, N: n, Turns: modeTurnsOf(wide, high, m, n, speed)})
	}
	for count := range int64(17) {
		got, ok := impl.LowModes(wide, high, speed, count)
		is(t, fmt.Sprint("LowModes ", wide, high, speed, count), toldModes(got, ok), toldModes(want[:count], true))
	}
}

// The orders come from the second program.
func TestLowModes(t *testing.T) {
	still := []int64{11, 12, 13, 14, 21, 22, 23, 24, 31, 32, 33, 34, 41, 42, 43, 44}
	for _, side := range someSides {
		isLow(t, side[0], side[1], 0, still...)
		isLow(t, side[0], side[1], negativeZero, still...)
		isLow(t, side[0], side[1], least, still...)
	}
	isLow(t, 3, 3, 0.5, 44, 14, 34, 41, 43, 11, 13, 31, 33, 24, 42, 12, 21, 23, 32, 22)
	isLow(t, 5, 5, 0.5, 11, 12, 21, 13, 22, 31, 14, 41, 23, 32, 24, 42, 33, 34, 43, 44)
	isLow(t, 16, 3, 0.5, 14, 24, 34, 44, 11, 13, 21, 23, 31, 33, 41, 43, 12, 22, 32, 42)
	isLow(t, 3, 16, 0.25, 41, 42, 43, 44, 11, 31, 12, 32, 13, 33, 14, 34, 21, 22, 23, 24)
	isLow(t, 16, 16, 0.5, 11, 12, 21, 22, 13, 31, 23, 32, 14, 41, 33, 24, 42, 34, 43, 44)
}

func TestLowModesOfAllSides(t *testing.T) {
	source, digested := numbers{403}, newDigest
	eachShape(func(wide, high int64, wrap bool) {
		if wrap {
			return
		}
		speed, count := picked(&source, []float32{0.5, part(&source) / 2, part(&source) / 2}), below(&source, 17)
		got, ok := impl.LowModes(wide, high, speed, count)
		is(t, fmt.Sprint("LowModes ", wide, high, speed, count), toldModes(got, ok), toldModes(lowModes(wide, high, speed)[:count], true))
		for _, mode := range got {
			digested = digested.with(uint32(10*mode.M + mode.N)).with(bitsOf(mode.Turns))
		}
	})
	is(t, "the digest of low modes", digested, 0x5abf71d6721f729d)
}

func TestLowModesThatAreRefused(t *testing.T) {
	for _, bad := range noBoxSides {
		isNone[impl.Mode](t, fmt.Sprint("LowModes, wide ", bad))(impl.LowModes(bad, 5, 0.5, 3))
		isNone[impl.Mode](t, fmt.Sprint("LowModes, high ", bad))(impl.LowModes(5, bad, 0.5, 3))
		isNone[impl.Mode](t, fmt.Sprint("LowModes, both ", bad))(impl.LowModes(bad, bad, 0.5, 0))
	}
	for _, speed := range noSpeeds {
		isNone[impl.Mode](t, fmt.Sprint("LowModes with ", speed))(impl.LowModes(5, 5, speed, 3))
		isNone[impl.Mode](t, fmt.Sprint("no LowModes with ", speed))(impl.LowModes(5, 5, speed, 0))
	}
	for _, count := range []int64{-1, -2, -16, 17, 18, 64, 1 << 32, 1<<32 + 1, math.MaxInt64, math.MinInt64} {
		isNone[impl.Mode](t, fmt.Sprint(count, " LowModes"))(impl.LowModes(5, 5, 0.5, count))
	}
}
