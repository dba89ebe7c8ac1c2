package tests

import (
	"math"
	"testing"

	"loop.example/g01201/impl"
)

// The numbers of these tables, and the digests below, are those of a second
// program in another language, which follows the document step by step.

var sines = []struct{ turns, want uint32 }{
	{0x00000000, 0x00000000}, // 0.0
	{0x80000000, 0x80000000}, // -0.0
	{0x3e7fffff, 0x3f800000}, // 0.2499999850988388
	{0x3e800000, 0x3f800000}, // 0.25
	{0x3e800001, 0x3f800000}, // 0.2500000298023224
	{0xbe7fffff, 0xbf800000}, // -0.2499999850988388
	{0xbe800000, 0xbf800000}, // -0.25
	{0xbe800001, 0xbf800000}, // -0.2500000298023224
	{0x3effffff, 0x34490fdb}, // 0.4999999701976776
	{0x3f000000, 0x80000000}, // 0.5
	{0x3f000001, 0xb4c90fdb}, // 0.5000000596046448
	{0xbeffffff, 0xb4490fdb}, // -0.4999999701976776
	{0xbf000000, 0x80000000}, // -0.5
	{0xbf000001, 0x34c90fdb}, // -0.5000000596046448
	{0x3f3fffff, 0xbf800000}, // 0.7499999403953552
	{0x3f400000, 0xbf800000}, // 0.75
	{0x3f400001, 0xbf800000}, // 0.7500000596046448
	{0xbf3fffff, 0x3f800000}, // -0.7499999403953552
	{0xbf400000, 0x3f800000}, // -0.75
	{0xbf400001, 0x3f800000}, // -0.7500000596046448
	{0x3f7fffff, 0xb4c90fdb}, // 0.9999999403953552
	{0x3f800000, 0x00000000}, // 1.0
	{0x3f800001, 0x35490fdb}, // 1.0000001192092896
	{0xbf7fffff, 0x34c90fdb}, // -0.9999999403953552
	{0xbf800000, 0x00000000}, // -1.0
	{0xbf800001, 0xb5490fdb}, // -1.0000001192092896
	{0x3dffffff, 0x3f3504f3}, // 0.1249999925494194
	{0x3e000000, 0x3f3504f3}, // 0.125
	{0x3e000001, 0x3f3504f4}, // 0.1250000149011612
	{0xbdffffff, 0xbf3504f3}, // -0.1249999925494194
	{0xbe000000, 0xbf3504f3}, // -0.125
	{0xbe000001, 0xbf3504f4}, // -0.1250000149011612
	{0x3fffffff, 0xb5490fdb}, // 1.9999998807907104
	{0x40000000, 0x00000000}, // 2.0
	{0x40000001, 0x35c90fdb}, // 2.000000238418579
	{0xbfffffff, 0x35490fdb}, // -1.9999998807907104
	{0xc0000000, 0x00000000}, // -2.0
	{0xc0000001, 0xb5c90fdb}, // -2.000000238418579
	{0x3dcccccd, 0x3f167918}, // 0.10000000149011612
	{0x3e99999a, 0x3f737870}, // 0.30000001192092896
	{0x3eaaaaab, 0x3f5db3d7}, // 0.3333333432674408
	{0x3ecccccd, 0x3f167918}, // 0.4000000059604645
	{0x3f19999a, 0xbf16791a}, // 0.6000000238418579
	{0x3f4ccccd, 0xbf737870}, // 0.800000011920929
	{0x3f666666, 0xbf16791a}, // 0.8999999761581421
	{0x3f8ccccd, 0x3f16791a}, // 1.100000023841858
	{0x41460000, 0x3f3504f3}, // 12.375
	{0xc0e9999a, 0xbf73786a}, // -7.300000190734863
	{0xbdcccccd, 0xbf167918}, // -0.10000000149011612
	{0xbf19999a, 0x3f16791a}, // -0.6000000238418579
	{0xbf666666, 0x3f16791a}, // -0.8999999761581421
	{0x4affffff, 0x80000000}, // 8388607.5
	{0xcaffffff, 0x80000000}, // -8388607.5
	{0x4b000000, 0x00000000}, // 8388608.0
	{0x47c35026, 0x3f74fa0b}, // 100000.296875
	{0x00000001, 0x00000006}, // 1.401298464324817e-45
	{0x80000001, 0x80000000}, // -1.401298464324817e-45
	{0x007fffff, 0x01c90fd9}, // 1.1754942106924411e-38
	{0x00800000, 0x01c90fdb}, // 1.1754943508222875e-38
	{0x80800000, 0x80000000}, // -1.1754943508222875e-38
	{0x597fffff, 0x00000000}, // 4503599358935040.0
	{0x59800000, 0x00000000}, // 4503599627370496.0
	{0xd97fffff, 0x00000000}, // -4503599358935040.0
	{0xd9800000, 0x00000000}, // -4503599627370496.0
	{0x7f7fffff, 0x00000000}, // 3.4028234663852886e+38
	{0xff7fffff, 0x00000000}, // -3.4028234663852886e+38
	{0x7f800000, 0x7fc00000}, // inf
	{0xff800000, 0x7fc00000}, // -inf
	{0x7fc00000, 0x7fc00000}, // nan
	// Turns for which the last of the eight steps matters.
	{0x3e434f37, 0x3f6e7421},
	{0x3e5d0d36, 0x3f7a22f0},
	{0x3e5d23f5, 0x3f7a2a88},
	{0x3e620129, 0x3f7bad23},
	{0xbe63cfc3, 0xbf7c2e29},
	{0x3f659b17, 0xbf1a7b2e},
}

func TestSineTurns(t *testing.T) {
	for _, c := range sines {
		x := numberOf(c.turns)
		isNumber(t, "SineTurns "+wordOf(x), impl.SineTurns(x), numberOf(c.want))
	}
	for _, bits := range []uint32{0x7f800001, 0xff800001, 0xffffffff} {
		isNumber(t, "SineTurns of a not-a-number", impl.SineTurns(numberOf(bits)), notANumber)
	}
}

func TestSineTurnsToTheLastBit(t *testing.T) {
	source, got := numbers{1}, newDigest
	for range 20000 {
		x := float32(float64(int32(source.next()>>32)) / 0x1p29)
		got = got.with(bitsOf(impl.SineTurns(x)))
	}
	is(t, "digest of sines", got, 0x8eff9a44433af127)
}

func TestSineTurnsIsNearlyTheSine(t *testing.T) {
	for n := -4000; n <= 4000; n++ {
		x := float32(n) / 1000
		want := math.Sin(float64(x) * 2 * math.Pi)
		if got := float64(impl.SineTurns(x)); math.Abs(got-want) > 1e-7 {
			t.Errorf("SineTurns %v: got %v, want nearly %v", x, got, want)
		}
	}
}

var phasors = []struct {
	turns uint64
	want  string
}{
	{0x0000000000000000, "3f80000000000000"}, // 0.0
	{0x8000000000000000, "3f80000080000000"}, // -0.0
	{0x3fcfffffffffffff, "25490fdb3f800000"}, // 0.24999999999999997
	{0x3fd0000000000000, "000000003f800000"}, // 0.25
	{0x3fd0000000000001, "a5c90fdb3f800000"}, // 0.25000000000000006
	{0xbfcfffffffffffff, "00000000bf800000"}, // -0.24999999999999997
	{0xbfd0000000000000, "00000000bf800000"}, // -0.25
	{0xbfd0000000000001, "00000000bf800000"}, // -0.25000000000000006
	{0x3fdfffffffffffff, "bf80000025c90fdb"}, // 0.49999999999999994
	{0x3fe0000000000000, "bf80000000000000"}, // 0.5
	{0x3fe0000000000001, "bf800000a6490fdb"}, // 0.5000000000000001
	{0xbfdfffffffffffff, "bf80000000000000"}, // -0.49999999999999994
	{0xbfe0000000000000, "bf80000000000000"}, // -0.5
	{0xbfe0000000000001, "bf80000026490fdb"}, // -0.5000000000000001
	{0x3fe7ffffffffffff, "a6490fdbbf800000"}, // 0.7499999999999999
	{0x3fe8000000000000, "00000000bf800000"}, // 0.75
	{0x3fe8000000000001, "26490fdbbf800000"}, // 0.7500000000000001
	{0xbfe7ffffffffffff, "a6490fdb3f800000"}, // -0.7499999999999999
	{0xbfe8000000000000, "000000003f800000"}, // -0.75
	{0xbfe8000000000001, "26490fdb3f800000"}, // -0.7500000000000001
	{0x3fefffffffffffff, "3f800000a6490fdb"}, // 0.9999999999999999
	{0x3ff0000000000000, "3f80000000000000"}, // 1.0
	{0x3ff0000000000001, "3f80000026c90fdb"}, // 1.0000000000000002
	{0xbfefffffffffffff, "3f80000026490fdb"}, // -0.9999999999999999
	{0xbff0000000000000, "3f80000000000000"}, // -1.0
	{0xbff0000000000001, "3f800000a6c90fdb"}, // -1.0000000000000002
	{0x3fb999999999999a, "3f4f1bbd3f167918"}, // 0.1
	{0x3fd3333333333333, "be9e377a3f737871"}, // 0.3
	{0x3fd5555555555555, "bf0000003f5db3d7"}, // 0.3333333333333333
	{0x3fd999999999999a, "bf4f1bbd3f167918"}, // 0.4
	{0x3fe3333333333333, "bf4f1bbdbf167918"}, // 0.6
	{0x3fe999999999999a, "3e9e377abf737871"}, // 0.8
	{0x3feccccccccccccd, "3f4f1bbdbf167918"}, // 0.9
	{0xbfb999999999999a, "3f4f1bbdbf167918"}, // -0.1
	{0xbfd3333333333333, "be9e377abf737871"}, // -0.3
	{0xbfe3333333333333, "bf4f1bbd3f167918"}, // -0.6
	{0xbfd5555555555555, "bf000000bf5db3d7"}, // -0.3333333333333333
	{0x4028c00000000000, "bf3504f33f3504f3"}, // 12.375
	{0xc08f45999999999a, "be9e377a3f737871"}, // -1000.7
	{0x0000000000000001, "3f80000000000000"}, // 5e-324
	{0x8000000000000001, "3f80000000000000"}, // -5e-324
	{0x3c670ef54646d497, "3f8000002490e161"}, // 1e-17
	{0xbc670ef54646d497, "3f80000000000000"}, // -1e-17
	{0x431fffffffffffff, "00000000bf800000"}, // 2251799813685247.8
	{0xc31fffffffffffff, "000000003f800000"}, // -2251799813685247.8
	{0x432fffffffffffff, "bf80000000000000"}, // 4503599627370495.5
	{0xc32fffffffffffff, "bf80000000000000"}, // -4503599627370495.5
	{0x4330000000000000, "3f80000000000000"}, // 4503599627370496.0
	{0xc330000000000000, "3f80000000000000"}, // -4503599627370496.0
	{0x7e37e43c8800759c, "3f80000000000000"}, // 1e+300
	{0xfe37e43c8800759c, "3f80000000000000"}, // -1e+300
	{0x7ff0000000000000, "7fc000007fc00000"}, // inf
	{0xfff0000000000000, "7fc000007fc00000"}, // -inf
	{0x7ff8000000000000, "7fc000007fc00000"}, // nan
	// Pairs of turns one beside the other between which a part changes by a bit:
	// they move if an operation is not rounded as told.
	{0x3fa206234dbe611c, "3f79c3633e60a754"},
	{0x3fa206234dbe611d, "3f79c3633e60a755"},
	{0x3fb22f962f8a89fc, "3f66eb643edd047e"},
	{0x3fb22f962f8a89fd, "3f66eb643edd047f"},
	{0x3fcb5a4f0536293d, "3e6793193f795e2b"},
	{0x3fcb5a4f0536293e, "3e6793193f795e2c"},
	{0x3fc9e254e7ed1752, "3e97691d3f748ccd"},
	{0x3fc9e254e7ed1753, "3e97691d3f748cce"},
	{0x3fb5bbb019a3486a, "3f5c6f8f3f022b5d"},
	{0x3fb5bbb019a3486b, "3f5c6f8f3f022b5e"},
	{0x3fc1c7c1c80c15c3, "3f2487833f4420b4"},
	{0x3fc1c7c1c80c15c4, "3f2487833f4420b5"},
	{0x3fc8a6c7be7d8b77, "3eb4b5853f6f864f"},
	{0x3fc8a6c7be7d8b78, "3eb4b5853f6f8650"},
	{0x3fb99c74c75b2676, "3f4f11303f16879c"},
	{0x3fb99c74c75b2677, "3f4f11303f16879d"},
	{0x3fc94764a6541655, "3ea5df533f72317b"},
	{0x3fc94764a6541656, "3ea5df533f72317c"},
	{0x3fab475a928554ea, "3f71ca093ea836c3"},
	{0x3fab475a928554eb, "3f71ca093ea836c4"},
	{0x3fce6ce9f0998022, "3d9e224f3f7f3c58"},
	{0x3fce6ce9f0998023, "3d9e224f3f7f3c59"},
	{0x3fce389fe488517f, "3db2992e3f7f0653"},
	{0x3fce389fe4885180, "3db2992e3f7f0654"},
	{0x3fa827b1e34f7f26, "3f74d5ba3e958ecb"},
	{0x3fa827b1e34f7f27, "3f74d5ba3e958ecc"},
	{0x3fc999c6206aa799, "3e9e33513f73791d"},
	{0x3fc999c6206aa79a, "3e9e33513f73791e"},
	{0x3fbeb3acad94ebb1, "3f3ab1aa3f2f2932"},
	{0x3fbeb3acad94ebb2, "3f3ab1aa3f2f2933"},
	{0x3fb626cc9cf5c9f6, "3f5b16623f046d1a"},
	{0x3fb626cc9cf5c9f7, "3f5b16623f046d1b"},
	{0x3fc4bc64c72f2785, "3f0672153f59daa0"},
	{0x3fc4bc64c72f2786, "3f0672153f59daa1"},
	{0x3fb89d867852d0cc, "3f52af1e3f116c9f"},
	{0x3fb89d867852d0cd, "3f52af1e3f116ca0"},
	{0x3fb8ff3499913741, "3f51501d3f136415"},
	{0x3fb8ff3499913742, "3f51501d3f136416"},
	{0x3fb7e87815819da2, "3f552d323f0dbed3"},
	{0x3fb7e87815819da3, "3f552d323f0dbed4"},
	{0x3f9117699ccbaf0a, "3f7e97f23dd66253"},
	{0x3f9117699ccbaf0b, "3f7e97f23dd66254"},
	{0x3f9f4eac76ce1a2d, "3f7b4a813e438088"},
	{0x3f9f4eac76ce1a2e, "3f7b4a813e438089"},
	{0x3faf3bbfc6ed4e60, "3f6d6ca03ebf79a9"},
	{0x3faf3bbfc6ed4e61, "3f6d6ca03ebf79aa"},
	{0x3fc13ffe201b0b7c, "3f2994263f3fc757"},
	{0x3fc13ffe201b0b7d, "3f2994263f3fc758"},
}

func TestPhasorOf(t *testing.T) {
	for _, c := range phasors {
		turns := math.Float64frombits(c.turns)
		if got := wordsOf(impl.PhasorOf(turns)); got != c.want {
			t.Errorf("PhasorOf %v: got %s, want %s", turns, got, c.want)
		}
	}
}

func TestPhasorExamples(t *testing.T) {
	isComplex(t, "the phasor of 0.25 turns", impl.PhasorOf(0.25), complex(0, 1))
	isNumber(t, "its angle", impl.AngleOf(impl.PhasorOf(0.25)), 0.25)
}

func TestPhasorOfToTheLastBit(t *testing.T) {
	source, got := numbers{2}, newDigest
	for range 20000 {
		x := impl.PhasorOf(float64(int64(source.next())) / 0x1p61)
		got = got.with(bitsOf(real(x))).with(bitsOf(imag(x)))
	}
	is(t, "digest of phasors", got, 0xc8ee41f67e54f035)
}

func TestPhasorsAreOnTheUnitCircle(t *testing.T) {
	for n := -400; n <= 400; n++ {
		turns := float64(n) / 800
		x := impl.PhasorOf(turns)
		if long := impl.LongOf(x); math.Abs(float64(long)-1) > 1e-6 {
			t.Errorf("PhasorOf %v: its length is %v", turns, long)
		}
		back := float64(impl.AngleOf(x))
		if far := math.Abs(back - turns); far > 1e-6 && math.Abs(far-1) > 1e-6 {
			t.Errorf("AngleOf PhasorOf %v: got %v", turns, back)
		}
	}
}

var angles = []struct{ y, x, want uint32 }{
	{0x00000000, 0x00000000, 0x00000000}, // 0.0, 0.0
	{0x80000000, 0x00000000, 0x00000000}, // -0.0, 0.0
	{0x00000000, 0x80000000, 0x00000000}, // 0.0, -0.0
	{0x80000000, 0x80000000, 0x00000000}, // -0.0, -0.0
	{0x00000000, 0x3f800000, 0x00000000}, // 0.0, 1.0
	{0x80000000, 0x3f800000, 0x00000000}, // -0.0, 1.0
	{0x00000000, 0xbf800000, 0x3f000000}, // 0.0, -1.0
	{0x80000000, 0xbf800000, 0x3f000000}, // -0.0, -1.0
	{0x3f800000, 0x00000000, 0x3e800000}, // 1.0, 0.0
	{0xbf800000, 0x00000000, 0xbe800000}, // -1.0, 0.0
	{0x3f800000, 0x80000000, 0x3e800000}, // 1.0, -0.0
	{0x3f800000, 0x3f800000, 0x3e000000}, // 1.0, 1.0
	{0x3f800000, 0xbf800000, 0x3ec00000}, // 1.0, -1.0
	{0xbf800000, 0x3f800000, 0xbe000000}, // -1.0, 1.0
	{0xbf800000, 0xbf800000, 0xbec00000}, // -1.0, -1.0
	{0x40400000, 0x40800000, 0x3dd1bfae}, // 3.0, 4.0
	{0x40800000, 0x40400000, 0x3e172029}, // 4.0, 3.0
	{0x40400000, 0xc0800000, 0x3ecb9014}, // 3.0, -4.0
	{0xc0800000, 0x40400000, 0xbe172029}, // -4.0, 3.0
	{0xc0400000, 0xc0800000, 0xbecb9014}, // -3.0, -4.0
	{0x3f800000, 0x3f800001, 0x3dffffff}, // 1.0, 1.0000001192092896
	{0x3f800001, 0x3f800000, 0x3e000001}, // 1.0000001192092896, 1.0
	{0x00000001, 0x00000001, 0x3e000000}, // 1.401298464324817e-45, 1.401298464324817e-45
	{0x00000001, 0x7f7fffff, 0x00000000}, // 1.401298464324817e-45, 3.4028234663852886e+38
	{0x7f7fffff, 0x00000001, 0x3e800000}, // 3.4028234663852886e+38, 1.401298464324817e-45
	{0x80000001, 0xff7fffff, 0xbf000000}, // -1.401298464324817e-45, -3.4028234663852886e+38
	{0xff7fffff, 0x80000001, 0xbe800000}, // -3.4028234663852886e+38, -1.401298464324817e-45
	{0x7f7fffff, 0xff7fffff, 0x3ec00000}, // 3.4028234663852886e+38, -3.4028234663852886e+38
	{0x00000001, 0x80000001, 0x3ec00000}, // 1.401298464324817e-45, -1.401298464324817e-45
	{0x00000001, 0x3f800000, 0x00000000}, // 1.401298464324817e-45, 1.0
	{0x3dcccccd, 0x41200000, 0x3ad099c2}, // 0.10000000149011612, 10.0
	// Points whose true angle, or that of fewer steps, is narrowed to another one.
	{0x3f5e057e, 0x3f89713c, 0x3ddd7434},
	{0x3f6e18c3, 0x3f8889d0, 0x3de9bad3},
	{0x3f9a13b4, 0x3f12b034, 0x3e3797dd},
	{0x3f7ee148, 0x3f881200, 0x3df5541c},
	{0x3f2312f4, 0x3fc1c7ee, 0x3d81d1cf},
	{0x3e7c22fc, 0x3f17467e, 0x3d80afde},
	{0x3fd0cf5a, 0x3f592b2f, 0x3e31d93c},
	{0xbe7fa208, 0xbf66df36, 0xbee9fe8b},
}

func TestAngles(t *testing.T) {
	for _, c := range angles {
		y, x := numberOf(c.y), numberOf(c.x)
		isNumber(t, "AngleTurns "+wordOf(y)+" "+wordOf(x), impl.AngleTurns(y, x), numberOf(c.want))
		isNumber(t, "AngleOf "+wordOf(x)+" "+wordOf(y), impl.AngleOf(complex(x, y)), numberOf(c.want))
	}
}

func TestAnglesOfWhatIsNotFinite(t *testing.T) {
	for _, bits := range []uint32{0x7f800000, 0xff800000, 0x7fc00000, 0x7f800001, 0xffffffff} {
		x := numberOf(bits)
		for _, y := range []float32{0, 1, -1, negativeZero, infinity, notANumber} {
			isNumber(t, "AngleTurns", impl.AngleTurns(x, y), notANumber)
			isNumber(t, "AngleTurns", impl.AngleTurns(y, x), notANumber)
			isNumber(t, "AngleOf", impl.AngleOf(complex(x, y)), notANumber)
		}
	}
}

func TestAnglesToTheLastBit(t *testing.T) {
	source, got := numbers{3}, newDigest
	for range 20000 {
		y := float32(float64(int32(source.next()>>32)) / 0x1p20)
		x := float32(float64(int32(source.next()>>32)) / 0x1p20)
		got = got.with(bitsOf(impl.AngleTurns(y, x)))
	}
	is(t, "digest of angles", got, 0x30bd3c1255ec8a21)
}

func TestAnglesOfSpecialNumbers(t *testing.T) {
	bits := []uint32{
		0x00000000, 0x80000000, 1, 0x80000001, 0x00800000, 0x3f800000, 0xbf800000, 0x3f7fffff,
		0x3f800001, 0x40400000, 0xc0400000, 0x3e99999a, 0xbe99999a, 0x7f7fffff, 0xff7fffff,
	}
	got := newDigest
	for _, y := range bits {
		for _, x := range bits {
			angle := impl.AngleTurns(numberOf(y), numberOf(x))
			got = got.with(bitsOf(angle))
			if angle < -0.5 || angle > 0.5 {
				t.Errorf("AngleTurns %08x %08x: got %v", y, x, angle)
			}
		}
	}
	is(t, "digest of angles", got, 0xd809283219ca129e)
}

var tenths = []struct {
	power uint32
	want  int64
}{
	{0x3f800000, 0},     // 1.0
	{0x41200000, 100},   // 10.0
	{0x42c80000, 200},   // 100.0
	{0x3dcccccd, -100},  // 0.10000000149011612
	{0x3c23d70a, -200},  // 0.009999999776482582
	{0x40000000, 30},    // 2.0
	{0x3f000000, -30},   // 0.5
	{0x40400000, 48},    // 3.0
	{0x40800000, 60},    // 4.0
	{0x3f400000, -12},   // 0.75
	{0x3f3fffff, -12},   // 0.7499999403953552
	{0x3fc00000, 18},    // 1.5
	{0x3fbfffff, 18},    // 1.4999998807907104
	{0x3f7fffff, 0},     // 0.9999999403953552
	{0x3f800001, 0},     // 1.0000001192092896
	{0x3f8147ae, 0},     // 1.0099999904632568
	{0x3f817b70, 1},     // 1.0115795135498047
	{0x3f817c1c, 1},     // 1.0116000175476074
	{0x3f816873, 0},     // 1.0110000371932983
	{0x3f7d119d, -1},    // 0.9885500073432922
	{0x3f7d14e4, 0},     // 0.9886000156402588
	{0x49742400, 600},   // 1000000.0
	{0x358637bd, -600},  // 9.999999974752427e-07
	{0x501502f9, 1000},  // 10000000000.0
	{0x60ad78ec, 2000},  // 1.0000000200408773e+20
	{0x1e3ce508, -2000}, // 9.999999682655225e-21
	{0x40e00000, 85},    // 7.0
	{0x00000001, -4485}, // 1.401298464324817e-45
	{0x00000002, -4455}, // 2.802596928649634e-45
	{0x00000003, -4438}, // 4.203895392974451e-45
	{0x007fffff, -3793}, // 1.1754942106924411e-38
	{0x00800000, -3793}, // 1.1754943508222875e-38
	{0x7f7fffff, 3853},  // 3.4028234663852886e+38
	// Powers beside those at which the tenths change.
	{0x3f817b6f, 0},
	{0x3f817b70, 1},
	{0x3f847f89, 1},
	{0x3f847f8a, 2},
	{0x3f7d11d0, -1},
	{0x3f7d11d1, 0},
	{0x3fa30226, 10},
	{0x3fa30227, 11},
	{0x3f4db3e3, -10},
	{0x3f4db3e4, -9},
	{0x41bdb5bb, 137},
	{0x41bdb5bc, 138},
	{0x3d30c00e, -137},
	{0x3d30c00f, -136},
	{0x0da4235d, -3000},
	{0x0da4235e, -2999},
	{0x714c496e, 3000},
	{0x714c496f, 3001},
}

func TestTenthsOf(t *testing.T) {
	for _, c := range tenths {
		got, ok := impl.TenthsOf(numberOf(c.power))
		is(t, "TenthsOf succeeds", ok, true)
		is(t, "TenthsOf "+wordOf(numberOf(c.power)), got, c.want)
	}
}

func TestTenthsOfRefusesOtherPowers(t *testing.T) {
	for _, bits := range []uint32{0, 0x80000000, 0x80000001, 0xbf800000, 0xff7fffff, 0x7f800000, 0xff800000, 0x7fc00000, 0x7f800001} {
		got, ok := impl.TenthsOf(numberOf(bits))
		is(t, "TenthsOf fails", ok, false)
		is(t, "TenthsOf that fails", got, 0)
	}
}

func TestTenthsOfAllKinds(t *testing.T) {
	source, sum := numbers{4}, newDigest
	for range 20000 {
		got, ok := impl.TenthsOf(numberOf(uint32(source.next() >> 33)))
		if !ok {
			got = 0x7fffffff
		}
		sum = sum.with(uint32(got))
	}
	is(t, "digest of tenths", sum, 0x57e2ed387bf308a3)
}
