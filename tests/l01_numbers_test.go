package tests

import (
	"math"
	"math/big"
	"testing"

	"loop.example/g01201/impl"
)

func TestNumbersAreToldByTheirBits(t *testing.T) {
	for _, p := range specialBits {
		for _, q := range specialBits {
			a, b := numberOf(p), numberOf(q)
			is(t, "SameNumber "+wordOf(a)+" "+wordOf(b), impl.SameNumber(a, b), bitsOf(a) == bitsOf(b))
		}
	}
}

func TestSameNumberOfZerosAndNotANumbers(t *testing.T) {
	is(t, "0 and -0", impl.SameNumber(0, negativeZero), false)
	is(t, "-0 and -0", impl.SameNumber(negativeZero, negativeZero), true)
	is(t, "not-a-numbers", impl.SameNumber(numberOf(0x7f800001), numberOf(0xffc12345)), true)
	is(t, "a not-a-number and infinity", impl.SameNumber(notANumber, infinity), false)
	is(t, "infinities", impl.SameNumber(infinity, -infinity), false)
	is(t, "1 and the next one", impl.SameNumber(1, numberOf(0x3f800001)), false)
}

func TestBits(t *testing.T) {
	for _, p := range specialBits {
		is(t, "BitsOf", impl.BitsOf(numberOf(p)), int64(bitsOf(numberOf(p))))
	}
	is(t, "BitsOf 1", impl.BitsOf(1), 0x3f800000)
	is(t, "BitsOf -0", impl.BitsOf(negativeZero), 0x80000000)
	is(t, "BitsOf a not-a-number", impl.BitsOf(numberOf(0xffffffff)), 2143289344)
}

func TestFromBits(t *testing.T) {
	for _, p := range specialBits {
		x, ok := impl.FromBits(int64(p))
		is(t, "FromBits succeeds", ok, true)
		isNumber(t, "FromBits", x, numberOf(p))
	}
	source := numbers{5}
	for range 2000 {
		p := uint32(source.next() >> 32)
		x, ok := impl.FromBits(int64(p))
		is(t, "FromBits succeeds", ok, true)
		is(t, "BitsOf FromBits", impl.BitsOf(x), int64(bitsOf(numberOf(p))))
	}
}

func TestFromBitsRefusesOtherNumbers(t *testing.T) {
	for _, n := range []int64{-1, 4294967296, 4294967297, math.MinInt64, math.MaxInt64, 1<<32 + 0x3f800000} {
		x, ok := impl.FromBits(n)
		is(t, "FromBits fails", ok, false)
		isNumber(t, "FromBits that fails", x, 0)
	}
}

func TestFinite(t *testing.T) {
	for _, p := range specialBits {
		is(t, "IsFinite "+wordOf(numberOf(p)), impl.IsFinite(numberOf(p)), p&0x7f800000 != 0x7f800000)
	}
}

func TestSubnormal(t *testing.T) {
	for _, p := range specialBits {
		x := numberOf(p)
		small := p&0x7f800000 == 0 && p&0x007fffff != 0
		is(t, "IsSubnormal "+wordOf(x), impl.IsSubnormal(x), small)
		want := x
		if small {
			want = numberOf(p & 0x80000000)
		}
		isNumber(t, "FlushNumber "+wordOf(x), impl.FlushNumber(x), want)
	}
	isNumber(t, "the negative one next to 0", impl.FlushNumber(numberOf(0x80000001)), negativeZero)
	isNumber(t, "the greatest subnormal one", impl.FlushNumber(numberOf(0x007fffff)), 0)
	isNumber(t, "the least normal one", impl.FlushNumber(numberOf(0x00800000)), numberOf(0x00800000))
}

func TestNarrowNumberAtItsEdges(t *testing.T) {
	const greatest = math.MaxFloat32
	cases := []struct {
		x    float64
		want uint32
	}{
		{0, 0}, {math.Copysign(0, -1), 0x80000000}, {0.5, 0x3f000000}, {-2, 0xc0000000},
		{1 + 0x1p-24, 0x3f800000}, {1 + 0x1p-24 + 0x1p-52, 0x3f800001}, {1 + 3*0x1p-24, 0x3f800002},
		{greatest, 0x7f7fffff}, {greatest + 0x1p103, 0x7f800000}, {-greatest - 0x1p103, 0xff800000},
		{math.Nextafter(greatest+0x1p103, 0), 0x7f7fffff}, {math.MaxFloat64, 0x7f800000},
		{0x1p-149, 1}, {0x1p-150, 0}, {-0x1p-150, 0x80000000}, {0x1p-150 + 0x1p-202, 1}, {3 * 0x1p-150, 2},
		{0x1p-126 - 0x1p-150, 0x00800000}, {math.SmallestNonzeroFloat64, 0}, {-math.SmallestNonzeroFloat64, 0x80000000},
		{math.Inf(1), 0x7f800000}, {math.Inf(-1), 0xff800000}, {math.NaN(), 0x7fc00000},
	}
	for _, c := range cases {
		isNumber(t, "NarrowNumber", impl.NarrowNumber(c.x), numberOf(c.want))
	}
}

func TestNarrowNumberRoundsToTheNearest(t *testing.T) {
	source := numbers{6}
	for range 5000 {
		sign := math.Copysign(1, float64(int64(source.next())))
		x := sign * math.Ldexp(1+float64(source.next()>>12)*0x1p-52, int(source.next()>>33%300)-160)
		want, _ := new(big.Float).SetFloat64(x).Float32()
		isNumber(t, "NarrowNumber", impl.NarrowNumber(x), want)
	}
}

func TestRootNumber(t *testing.T) {
	cases := []struct{ x, want uint32 }{
		{0x00000000, 0x00000000}, {0x80000000, 0x80000000}, {0x3f800000, 0x3f800000}, {0x41100000, 0x40400000},
		{0x40000000, 0x3fb504f3}, {0x7f800000, 0x7f800000}, {0xff800000, 0x7fc00000}, {0xbf800000, 0x7fc00000},
		{0x80000001, 0x7fc00000}, {0x7fc00000, 0x7fc00000}, {0x00000002, 0x1a800000}, {0x7f7fffff, 0x5f7fffff},
	}
	for _, c := range cases {
		isNumber(t, "RootNumber", impl.RootNumber(numberOf(c.x)), numberOf(c.want))
	}
}

func TestRootNumberIsNarrowed(t *testing.T) {
	source := numbers{7}
	for range 5000 {
		x := numberOf(uint32(source.next()>>32) & 0x7fffffff)
		if x != x || x > math.MaxFloat32 {
			continue
		}
		root := new(big.Float).SetPrec(53).Sqrt(big.NewFloat(float64(x)))
		want, _ := root.Float32()
		isNumber(t, "RootNumber", impl.RootNumber(x), want)
	}
}
