package tests

import (
	"fmt"
	"math"
	"testing"

	"loop.example/g01201/impl"
)

// only returns a record of many numbers that are zeros but for one.
func only(at int, x float32) []float32 {
	list := make([]float32, maxRecord)
	list[at] = x
	return list
}

func TestExampleOfDelays(t *testing.T) {
	for _, most := range []int64{2, 3, maxRecord} {
		isLag(t, "the example", []float32{1, 0, 0}, []float32{0, 0, 1}, most, 2)
	}
	isCorrelation(t, "the example", []float32{1, 0, 0}, []float32{0, 0, 1}, 2, 1)
}

// Each number that is wanted here has been computed by hand.
func TestCorrelations(t *testing.T) {
	type list = []float32
	a, b := list{1, 2, 3}, list{4, 5, 6}
	for shift, want := range map[int64]float32{0: 32, 1: 17, 2: 6, 3: 0, 4: 0, -1: 23, -2: 12, -3: 0, -4: 0, maxRecord: 0, -maxRecord: 0} {
		isCorrelation(t, "three numbers", a, b, shift, want)
		isCorrelation(t, "three numbers the other way", b, a, -shift, want)
	}
	a, b = list{1, 2}, list{3, 4, 5, 6}
	for shift, want := range map[int64]float32{0: 11, 1: 14, 2: 17, 3: 6, 4: 0, 5: 0, -1: 6, -2: 0, -3: 0, maxRecord: 0, -maxRecord: 0} {
		isCorrelation(t, "different lengths", a, b, shift, want)
		isCorrelation(t, "different lengths the other way", b, a, -shift, want)
	}
	for shift, want := range map[int64]float32{0: -35, 1: 0, -1: 0, maxRecord: 0, -maxRecord: 0} {
		isCorrelation(t, "one number", list{5}, list{-7}, shift, want)
	}
	isCorrelation(t, "the first and the last number", only(0, 3), only(maxRecord-1, 5), maxRecord-1, 15)
	isCorrelation(t, "the last and the first number", only(maxRecord-1, 3), only(0, 5), 1-maxRecord, 15)
	isCorrelation(t, "one and many", list{2}, only(maxRecord-1, 5), maxRecord-1, 10)
	isCorrelation(t, "many and one", only(maxRecord-1, 5), list{2}, 1-maxRecord, 10)
	many := repeated[float32](1, maxRecord)
	for shift := int64(-maxRecord); shift <= maxRecord; shift++ {
		isCorrelation(t, "many numbers", many, many, shift, float32(maxRecord-max(shift, -shift)))
	}
}

func TestCorrelationsOfSpecialNumbers(t *testing.T) {
	type list = []float32
	inf, nan, z, most := infinity, notANumber, negativeZero, float32(math.MaxFloat32)
	ones := list{1, 1, 1, 1, 1, 1}
	for _, c := range []struct {
		what  string
		a, b  list
		shift int64
		want  float32
	}{
		{"zeros with signs", list{z, z}, list{1, 0}, 0, 0},
		{"zeros with signs that do not meet", list{z, z}, list{z, z}, 2, 0},
		{"what 32 bits lose", list{1 << 12, 1, -1 << 12}, list{1 << 12, 1, 1 << 12}, 0, 1},
		{"products of 64-bit numbers", list{1 + 0x1p-12, -1}, list{1 + 0x1p-12, 1 + 0x1p-11}, 0, 0x1p-24},
		{"what is lost", list{0x1p54, 1, 1, 1, 1, -0x1p54}, ones, 0, 0},
		{"what is not lost", list{1, 1, 1, 1, 0x1p54, -0x1p54}, ones, 0, 4},
		{"a half that is narrowed", list{1, 0x1p-24}, list{1, 1}, 0, 1},
		{"more than a half", list{1, 0x1p-24, 0x1p-50}, ones, 0, 1 + 0x1p-23},
		{"a product that is too great", list{most}, list{2}, 0, inf},
		{"a negative product that is too great", list{most}, list{-most}, 0, -inf},
		{"products that are too great in between", list{most, -most, 3}, list{most, most, 1}, 0, 3},
		{"a sum that is too great", list{most, most}, list{1, 1}, 0, inf},
		{"a sum that is just not", list{most, most, -most}, list{1, 1, 1}, 0, most},
		{"a product that is too small", list{-least}, list{least}, 0, z},
		{"a product that is just not", list{0x1p-75}, list{0x1.000002p-75}, 0, least},
		{"an infinity", list{1, inf}, list{1, -2}, 0, -inf},
		{"an infinity and a zero", list{1, inf}, list{1, 0}, 0, nan},
		{"infinities", list{inf, inf}, list{1, -1}, 0, nan},
		{"an infinity that does not meet a number", list{3, inf}, list{1, 2}, 1, 6},
		{"a not-a-number", list{1, numberOf(0xff800001)}, list{1, 0}, 0, nan},
		{"a not-a-number that does not meet a number", list{nan, 3}, list{2, nan}, -1, 6},
	} {
		isCorrelation(t, c.what, c.a, c.b, c.shift, c.want)
	}
}

func TestLags(t *testing.T) {
	type list = []float32
	inf, nan, most := infinity, notANumber, float32(math.MaxFloat32)
	for _, c := range []struct {
		what       string
		a, b       list
		most, want int64
	}{
		{"a delay", list{0, 1, 2, 0}, list{0, 0, 1, 2}, 3, 1},
		{"the other way", list{0, 0, 1}, list{1, 0, 0}, 2, -2},
		{"too little", list{1, 0, 0}, list{0, 0, 1}, 1, -1},
		{"no shift", list{1, 0, 0}, list{0, 0, 1}, 0, 0},
		{"the limit", only(0, 3), only(maxRecord-1, 5), maxRecord - 1, maxRecord - 1},
		{"beyond the limit", only(0, 3), only(maxRecord-1, 5), maxRecord, maxRecord - 1},
		{"the limit the other way", only(maxRecord-1, 3), only(0, 5), maxRecord, 1 - maxRecord},
		{"the first of two", list{1}, list{2, 1, 2}, 2, 0},
		{"the least of two", list{2, 1, 2}, list{1}, 2, -2},
		{"one of two", list{2, 1, 2}, list{1}, 1, 0},
		{"the least of three", list{1, 1, 1}, list{0, 0, 3, 0, 0}, 5, 0},
		{"zeros", list{0}, list{0}, 5, -5},
		{"zeros with most 0", list{0}, list{0}, 0, 0},
		{"what is less than nothing", list{1}, list{-1}, 0, 0},
		{"what is less than what does not meet", list{1}, list{-1}, 1, -1},
		{"the least shift of all", list{1}, list{-1}, maxRecord, -maxRecord},
		{"all less than nothing", list{-3, -1, -3}, list{2, 2, 2}, 1, -1},
		{"zeros of both signs", list{0, -least}, list{least, 0}, 1, -1},
		{"equal when they are narrowed", list{1, 0x1p-30}, list{1, 1, 2}, 1, 0},
		{"too great alike", list{most}, list{1, 2, most}, 2, 1},
		{"infinities", list{inf}, list{1, 1, 1}, 2, 0},
		{"an infinity that is negative", list{-inf}, list{1}, 0, 0},
		{"an infinity beside not-a-numbers", list{-inf, nan}, list{1, 1}, 1, 1},
		{"an infinity and a zero", list{inf}, list{0, 1}, 1, 1},
		{"a not-a-number", list{nan}, list{1}, 1, -1},
		{"a not-a-number at the end", list{1, 0}, list{1, nan}, 1, -1},
		{"a not-a-number in between", list{2, 1}, list{nan, 3}, 1, 1},
		{"not-a-numbers that come first", list{-1, nan}, list{1, 1}, 1, 1},
	} {
		isLag(t, c.what, c.a, c.b, c.most, c.want)
	}
}

func TestLagsOfNotANumbers(t *testing.T) {
	for _, x := range someNotANumbers {
		none := repeated(x, maxRecord)
		for _, other := range [][]float32{none, repeated[float32](1, maxRecord), only(3, infinity)} {
			for _, most := range []int64{0, 1, 2, maxRecord - 1} {
				isNothing[int64](t, fmt.Sprint("LagOf not-a-numbers ", most))(impl.LagOf(none, other, most))
				isNothing[int64](t, fmt.Sprint("LagOf with not-a-numbers ", most))(impl.LagOf(other, none, most))
			}
			isLag(t, "what meets no not-a-number", none, other, maxRecord, -maxRecord)
		}
		isNothing[int64](t, "LagOf one not-a-number")(impl.LagOf([]float32{x}, []float32{1}, 0))
	}
	isNothing[int64](t, "LagOf an infinity and a zero")(impl.LagOf([]float32{infinity}, []float32{0}, 0))
}

func TestDelaysAreWhatTheDocumentTells(t *testing.T) {
	source := numbers{258}
	for what, number := range someKinds {
		for count := 1; count <= maxRecord; count++ {
			a, b := anyRecord(&source, count, number), anyRecord(&source, 1+int(below(&source, maxRecord)), number)
			for shift := int64(-maxRecord); shift <= maxRecord; shift++ {
				isCorrelation(t, fmt.Sprint(what, count, len(b)), a, b, shift, correlationOf(a, b, shift))
			}
			for most := range int64(maxRecord + 1) {
				want, isFound := lagOf(a, b, most)
				got, ok := impl.LagOf(a, b, most)
				is(t, fmt.Sprint("LagOf ", what, count, most), told(got, ok), told(want, isFound))
			}
		}
	}
}

func TestCorrelationsThatAreRefused(t *testing.T) {
	for _, list := range [][]float32{{1}, {1, 2, 3}, make([]float32, maxRecord)} {
		for _, n := range []int64{maxRecord + 1, maxRecord + 2, 1 << 32, 1<<32 + 1, math.MaxInt64, math.MaxInt64 - maxRecord} {
			for _, shift := range []int64{n, -n} {
				isNothing[float32](t, fmt.Sprint("CorrelationAt ", shift))(impl.CorrelationAt(list, list, shift))
				isNothing[int64](t, fmt.Sprint("LagOf with most ", shift))(impl.LagOf(list, list, shift))
			}
		}
		isNothing[float32](t, "CorrelationAt the least integer")(impl.CorrelationAt(list, list, math.MinInt64))
		for _, most := range []int64{-1, -2, -maxRecord, math.MinInt64, math.MinInt64 + 1} {
			isNothing[int64](t, fmt.Sprint("LagOf with most ", most))(impl.LagOf(list, list, most))
		}
	}
}

// The digests are those of a second program, in another language, that follows
// the document.
func TestDelaysOfASecondProgram(t *testing.T) {
	for seed, c := range map[uint64]struct {
		kind string
		want digest
	}{
		260: {"near", 0x4480dcab26017254},
		261: {"few bits", 0xff6b24a563b97b90},
		262: {"special", 0xb47d05b4419ce93f},
		263: {"ordinary", 0xc066805b034708e4},
		264: {"integers", 0x522f98586e55b370},
	} {
		source, got := numbers{seed}, newDigest
		for _, count := range someLengthsOfRecords {
			a, b := anyRecord(&source, count, someKinds[c.kind]), anyRecord(&source, 1+int(below(&source, maxRecord)), someKinds[c.kind])
			for shift := int64(-maxRecord); shift <= maxRecord; shift++ {
				x, ok := impl.CorrelationAt(a, b, shift)
				is(t, "CorrelationAt succeeds", ok, true)
				got = got.with(bitsOf(x))
			}
			for most := range int64(maxRecord + 1) {
				if lag, ok := impl.LagOf(a, b, most); ok {
					got = got.with(uint32(lag + 100))
				} else {
					got = got.with(1000)
				}
			}
		}
		is(t, "the digest of delays of "+c.kind, got, c.want)
	}
}
