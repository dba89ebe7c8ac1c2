package tests

import (
	"fmt"
	"math"
	"testing"

	"loop.example/g01201/impl"
)

func TestValidBins(t *testing.T) {
	for _, turns := range []float32{0, negativeZero, 1, -0.25, least, -least, math.MaxFloat32, -math.MaxFloat32} {
		for _, step := range []int64{0, 1, 2, maxTicks - 1, maxTicks} {
			for _, sum := range []complex64{0, complex(infinity, 1), complex(1, -infinity), complex(notANumber, numberOf(0xff800001))} {
				b := impl.Bin{Turns: turns, Step: step, Sum: sum}
				is(t, fmt.Sprint("ValidBin ", b), impl.ValidBin(b), true)
			}
		}
	}
}

func TestBinsThatAreRefused(t *testing.T) {
	for _, turns := range append([]float32{infinity, -infinity}, someNotANumbers...) {
		for _, step := range []int64{0, 1, maxTicks - maxRecord, maxTicks} {
			refusesBin(t, fmt.Sprint(turns, step), impl.Bin{Turns: turns, Step: step, Sum: 1})
		}
		isNothing[complex64](t, fmt.Sprint("BinOf with the turns ", turns))(impl.BinOf([]float32{1, 2}, turns))
		isNothing[complex64](t, fmt.Sprint("BinOf one with the turns ", turns))(impl.BinOf([]float32{0}, turns))
	}
	for _, step := range append([]int64{-maxRecord, -maxTicks, math.MinInt64 + 1, math.MaxInt64 - maxRecord}, noSteps...) {
		for _, turns := range []float32{0, 0.25, infinity} {
			refusesBin(t, fmt.Sprint(turns, step), impl.Bin{Turns: turns, Step: step})
		}
	}
}

// Each number that is wanted here has been computed by hand.
func TestBins(t *testing.T) {
	four := []float32{1, 2, 3, 4}
	for _, c := range []struct {
		turns float32
		want  complex64
	}{
		{0.25, complex(-2, 2)}, {-0.25, complex(-2, -2)}, {0.75, complex(-2, -2)}, {-0.75, complex(-2, 2)}, {4.25, complex(-2, 2)},
		{0.5, -2}, {-0.5, -2}, {1.5, -2}, {4194303.5, -2},
		{0, 10}, {negativeZero, 10}, {1, 10}, {-1, 10}, {7, 10}, {-300, 10}, {least, 10}, {-least, complex(10, 127*least)},
		{0x1p51, 10}, {0x1.8p51, 10}, {0x1p52, 10}, {-0x1p52, 10}, {0x1p80, 10}, {math.MaxFloat32, 10}, {-math.MaxFloat32, 10},
	} {
		isOfBin(t, "four numbers", four, c.turns, c.want)
	}
	isOfBin(t, "one number", []float32{-3}, 0.3, -3)
	isOfBin(t, "one number that is far", []float32{0, 0, 0, 5}, 0.25, complex(0, 5))
	isOfBin(t, "eight numbers", []float32{1, 1, 1, 1, 2, 2, 2, 2}, 0.5, 0)
	isOfBin(t, "many numbers", repeated[float32](1, maxRecord), 0, maxRecord)
	isOfBin(t, "many numbers that turn", repeated[float32](1, maxRecord), 0.25, 0)
}

func TestBinsOfSpecialNumbers(t *testing.T) {
	type list = []float32
	inf, nan, z, most := infinity, notANumber, negativeZero, float32(math.MaxFloat32)
	for _, c := range []struct {
		list  list
		turns float32
		want  complex64
	}{
		{list{0}, 0.25, 0},
		{list{z}, 0.25, 0},
		{list{z, z, z, z}, 0.25, 0},
		{list{z, z, z, z}, z, 0},
		{list{0, z, 0, z}, -0.25, 0},
		{list{inf}, 0.25, complex(inf, nan)},
		{list{-inf, 1}, 0.25, complex(-inf, nan)},
		{list{1, inf}, 0.25, complex(nan, -inf)},
		{list{1, inf}, -0.25, complex(nan, inf)},
		{list{0, inf, 0, inf}, 0.25, complex(nan, nan)},
		{list{nan}, 0.25, complex(nan, nan)},
		{list{1, 2, numberOf(0xff800001), 3}, 0, complex(nan, nan)},
		{list{most, most}, 0, complex(inf, 0)},
		{list{most, most, -most}, 0, complex(inf, 0)},
		{list{most, -most, most}, 0, complex(most, 0)},
		{list{most, 0, most}, 0.5, complex(inf, 0)},
		{list{most, most, most}, 0.5, complex(most, 0)},
		{list{1 << 24, 1, 1}, 0, complex(1<<24, 0)},
		{list{1, 1, 1 << 24}, 0, complex(1<<24+2, 0)},
		{list{0, 1 << 24, 0, -1, 0, 1 << 24}, -0.25, complex(0, 1<<25)},
		{list{least, least, -least}, 0, complex(least, 0)},
	} {
		isOfBin(t, fmt.Sprint(c.list), c.list, c.turns, c.want)
	}
}

// Where the product of Step and Turns is a zero, its opposite has the other sign,
// and so has the imaginary part of the phasor: this is seen where it meets -0.
func TestSignsOfBins(t *testing.T) {
	z := negativeZero
	for _, c := range []struct {
		turns float32
		step  int64
		value float32
		want  complex64
	}{
		{0.25, 0, 1, complex(1, z)},
		{0.25, 0, -1, complex(-1, 0)},
		{0.25, 0, 0, complex(0, z)},
		{0.25, 0, z, complex(z, 0)},
		{-0.25, 0, 1, complex(1, 0)},
		{-0.25, 0, -1, complex(-1, z)},
		{-0.25, 0, z, complex(z, z)},
		{0, 0, 1, complex(1, z)},
		{z, 0, 1, complex(1, 0)},
		{0, 3, 1, complex(1, z)},
		{z, 3, 1, complex(1, 0)},
		{0, maxTicks - 1, 1, complex(1, z)},
		{1, 3, 1, complex(1, 0)},
		{-1, 3, 1, complex(1, 0)},
		{0x1p52, 3, 1, complex(1, 0)},
		{math.MaxFloat32, maxTicks - 1, -1, complex(-1, z)},
		{0.25, 1, 1, complex(0, -1)},
		{0.25, 1, -1, complex(z, 1)},
		{0.25, 2, 1, complex(-1, 0)},
		{0.25, 3, 1, complex(0, 1)},
		{-0.25, 3, 1, complex(0, -1)},
		{0.25, maxTicks - 1, 5, complex(0, 5)},
		{0.25, maxTicks - 2, 5, complex(-5, 0)},
		{4194304.5, maxTicks - 1, 5, complex(-5, 0)},
	} {
		b := impl.Bin{Turns: c.turns, Step: c.step, Sum: complex(z, z)}
		want := impl.Bin{Turns: c.turns, Step: c.step + 1, Sum: c.want}
		got, ok := impl.StepBin(b, c.value)
		isBin(t, fmt.Sprint("StepBin ", b, " with ", c.value), got, ok, want)
		got, ok = impl.RunBin(b, []float32{c.value})
		isBin(t, fmt.Sprint("RunBin ", b, " with ", c.value), got, ok, want)
	}
}

func TestStepBin(t *testing.T) {
	b := impl.Bin{}
	for k := range int64(10) {
		got, ok := impl.StepBin(b, 5)
		b = impl.Bin{Step: k + 1, Sum: complex(float32(5*k+5), 0)}
		isBin(t, fmt.Sprint("StepBin ", k), got, ok, b)
	}
	last, ok := impl.StepBin(impl.Bin{Turns: 0.25, Step: maxTicks - 1, Sum: 1}, 2)
	isBin(t, "StepBin up to MaxTicks", last, ok, impl.Bin{Turns: 0.25, Step: maxTicks, Sum: complex(1, 2)})
	for _, value := range []float32{0, 1, notANumber} {
		isNothing[impl.Bin](t, "StepBin from MaxTicks on")(impl.StepBin(last, value))
		isNothing[impl.Bin](t, "StepBin of nothing from MaxTicks on")(impl.StepBin(impl.Bin{Step: maxTicks}, value))
	}
}

func TestRunsOfNoNumber(t *testing.T) {
	for _, b := range []impl.Bin{
		{}, {Turns: 0.3, Step: 5, Sum: complex(1, -2)}, {Turns: negativeZero, Sum: complex(negativeZero, negativeZero)},
		{Turns: math.MaxFloat32, Step: maxTicks, Sum: complex(infinity, notANumber)},
	} {
		for _, list := range [][]float32{nil, {}} {
			got, ok := impl.RunBin(b, list)
			isBin(t, fmt.Sprint("RunBin ", b, " with no number"), got, ok, b)
		}
	}
}

func TestRunsUpToMaxTicks(t *testing.T) {
	source := numbers{246}
	for count := range maxRecord + 1 {
		list := anyRecord(&source, count, near)
		b := impl.Bin{Turns: anyTurns(&source), Step: maxTicks - int64(count), Sum: complex(1, 2)}
		got, ok := impl.RunBin(b, list)
		isBin(t, fmt.Sprint("RunBin ", b, " up to MaxTicks"), got, ok, grown(b, list))
		is(t, "the last Step", got.Step, maxTicks)
		for by := int64(1); by <= int64(count); by++ {
			b.Step = maxTicks - int64(count) + by
			isNothing[impl.Bin](t, fmt.Sprint("RunBin ", b, " beyond MaxTicks"))(impl.RunBin(b, list))
		}
	}
}

func TestRunsOfTooManyNumbers(t *testing.T) {
	for _, count := range []int{maxRecord + 1, maxRecord + 2, 2 * maxRecord, 1000} {
		for _, b := range []impl.Bin{{}, {Turns: 0.25, Step: 7, Sum: 1}, {Step: maxTicks}} {
			isNothing[impl.Bin](t, fmt.Sprint("RunBin ", b, " with ", count))(impl.RunBin(b, make([]float32, count)))
		}
	}
}

func TestBinsAreWhatTheDocumentTells(t *testing.T) {
	source := numbers{247}
	for what, number := range someKinds {
		for count := 1; count <= maxRecord; count++ {
			list, turns := anyRecord(&source, count, number), anyTurns(&source)
			isOfBin(t, fmt.Sprint(what, count), list, turns, grown(impl.Bin{Turns: turns}, list).Sum)
			b := anyBin(&source, int64(count))
			got, ok := impl.RunBin(b, list)
			isBin(t, fmt.Sprint("RunBin ", b, what, count), got, ok, grown(b, list))
			got, ok = impl.StepBin(b, list[0])
			isBin(t, fmt.Sprint("StepBin ", b, what), got, ok, grown(b, list[:1]))
		}
	}
}

// The words here, and the digests below, are those of a second program in another
// language. The product of Step and Turns has more bits than 32-bit numbers.
func TestBinsOfASecondProgram(t *testing.T) {
	for _, c := range []struct {
		turns float32
		step  int64
		want  string
	}{
		{0.1, 999999, "3f5082123f148702"},
		{0.1, 500000, "3f7fff48bb9965c4"},
		{-0.3, 123457, "3f4db5443f1861b8"},
		{1234.56, 999998, "bf7c7eb0be28defc"},
		{1e-7, 999999, "3f4f1bc3bf167910"},
	} {
		got, ok := impl.StepBin(impl.Bin{Turns: c.turns, Step: c.step}, 1)
		is(t, fmt.Sprint("StepBin ", c.turns, c.step), fmt.Sprint(wordsOf(got.Sum), ok), fmt.Sprint(c.want, true))
	}
}

func TestBinsToTheLastBit(t *testing.T) {
	for _, c := range []struct {
		seed uint64
		kind string
		want digest
	}{
		{241, "near", 0x5d23b51e4a1a6579},
		{242, "few bits", 0x99baf3a65aaa3d01},
		{243, "special", 0xd1062e5f022ac850},
		{244, "ordinary", 0x9b15437c225db584},
		{245, "integers", 0x21f876e6737285e8},
	} {
		source, got := numbers{c.seed}, newDigest
		for n := range 200 {
			list := anyRecord(&source, 1+n%maxRecord, someKinds[c.kind])
			sum, ok := impl.BinOf(list, anyTurns(&source))
			is(t, "BinOf succeeds", ok, true)
			b, ok := impl.RunBin(anyBin(&source, int64(len(list))), list)
			is(t, "RunBin succeeds", ok, true)
			got = got.withComplex(sum).withComplex(b.Sum).with(uint32(b.Step))
		}
		is(t, fmt.Sprint("the digest of bins of ", c.kind), got, c.want)
	}
}
