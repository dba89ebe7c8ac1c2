package tests

import (
	"fmt"
	"math"
	"strings"
	"testing"

	"loop.example/g01201/impl"
)

func TestLimitsOfSources(t *testing.T) {
	is(t, "MaxSources", impl.MaxSources, maxSources)
	is(t, "MaxProbes", impl.MaxProbes, maxProbes)
	is(t, "MaxRecord", impl.MaxRecord, maxRecord)
	is(t, "MaxTicks", impl.MaxTicks, maxTicks)
	is(t, "the kinds", fmt.Sprint(someWaveKinds), "[0 1 2 3 4]")
}

func TestExamplesOfWaves(t *testing.T) {
	list, ok := impl.WaveList(impl.Wave{Kind: impl.WaveRamp, Long: 4, Size: 1}, 0, 5)
	isList(t, "the ramp", list, ok, 0.25, 0.5, 0.75, 1, 1)
	list, ok = impl.WaveList(impl.Wave{Kind: impl.WaveTone, Long: 1, Turns: 0.25, Size: 2}, 0, 2)
	isList(t, "the tone", list, ok, 0, 2)
}

// Each number that is wanted here has been computed by hand.
func TestPulses(t *testing.T) {
	isWaveList(t, "a pulse", impl.Wave{At: 2, Long: 3, Size: 5}, 0, 0, 0, 5, 5, 5, 0, 0)
	isWaveList(t, "a pulse from its middle on", impl.Wave{At: 2, Long: 3, Size: 5}, 3, 5, 5, 0, 0)
	isWaveList(t, "a pulse of one step", impl.Wave{At: 1, Long: 1, Size: -5}, 0, 0, -5, 0)
	isWaveList(t, "a pulse from the first step on", impl.Wave{Long: 2, Size: least}, 0, least, least, 0)
	isWaveList(t, "other fields", impl.Wave{Long: 1, Size: 3, Turns: -7.5, Seed: seeds - 1}, 0, 3, 0)
	isWaveList(t, "the last steps", impl.Wave{At: maxTicks - 1, Long: maxTicks, Size: 4}, maxTicks-2, 0, 4, 4)
	isWaveList(t, "the last step", impl.Wave{At: maxTicks, Long: 1, Size: 4}, maxTicks-1, 0, 4)
	isWaveList(t, "a pulse that is long", impl.Wave{Long: maxTicks, Size: 4}, maxTicks-2, 4, 4, 0)
	isWaveList(t, "a pulse that is long and late", impl.Wave{At: 1, Long: maxTicks, Size: 4}, maxTicks-2, 4, 4, 4)
	isWaveList(t, "a pulse that is less long", impl.Wave{Long: maxTicks - 1, Size: 4}, maxTicks-2, 4, 0, 0)
}

func TestTones(t *testing.T) {
	z := negativeZero
	isWaveList(t, "quarters", impl.Wave{Kind: impl.WaveTone, Long: 1, Turns: 0.25, Size: 2}, 0, 0, 2, z, -2, 0, 2, z, -2, 0)
	isWaveList(t, "quarters backward", impl.Wave{Kind: impl.WaveTone, Long: 5, Turns: -0.25, Size: 2}, 0, z, -2, z, 2, 0, -2, z, 2, 0)
	isWaveList(t, "three quarters", impl.Wave{Kind: impl.WaveTone, Long: 2, Turns: 0.75, Size: 2}, 0, 0, -2, z, 2, 0)
	isWaveList(t, "later quarters", impl.Wave{Kind: impl.WaveTone, At: 3, Long: maxTicks, Turns: 0.25, Size: -2}, 1, 0, 0, z, -2, 0, 2, z)
	isWaveList(t, "the end", impl.Wave{Kind: impl.WaveTone, At: maxTicks - 2, Long: 1, Turns: 0.25, Size: 8}, maxTicks-4, 0, 0, 0, 8, z)
	isWaveList(t, "what is long ago", impl.Wave{Kind: impl.WaveTone, Long: 1, Turns: 0.25, Size: 8}, maxTicks-3, 8, z, -8, 0)
	isWaveList(t, "half turns", impl.Wave{Kind: impl.WaveTone, Long: 1, Turns: 0.5, Size: 3}, 0, 0, z, 0, z)
}

func TestTonesOfWholeTurns(t *testing.T) {
	for _, turns := range []float32{1, 2, 7, 300, 0x1p24, 0x1p30, 0x1p52, 0x1p80} {
		isWaveList(t, "whole turns", impl.Wave{Kind: impl.WaveTone, Long: 1, Turns: turns, Size: 3}, 0, 0, 0, 0, 0)
		isWaveList(t, "whole turns backward", impl.Wave{Kind: impl.WaveTone, Long: 1, Turns: -turns, Size: 3}, 0, negativeZero, 0, 0, 0)
	}
	isWaveList(t, "no turns", impl.Wave{Kind: impl.WaveTone, Long: 1, Size: 3}, 0, 0, 0, 0)
	isWaveList(t, "no turns with a sign", impl.Wave{Kind: impl.WaveTone, Long: 1, Turns: negativeZero, Size: 3}, 0, negativeZero, negativeZero, negativeZero)
	nan := notANumber
	isWaveList(t, "the most turns", impl.Wave{Kind: impl.WaveTone, Long: 9, Turns: math.MaxFloat32, Size: 3}, 0, 0, 0, nan, nan)
	isWaveList(t, "half as many", impl.Wave{Kind: impl.WaveTone, Long: 9, Turns: -math.MaxFloat32 / 2, Size: 3}, 0, negativeZero, 0, 0, nan)
	isWaveList(t, "too many in the end", impl.Wave{Kind: impl.WaveTone, Long: 9, Turns: 0x1p109, Size: 3}, 1<<19-1, 0, nan, nan)
	isWaveList(t, "a burst", impl.Wave{Kind: impl.WaveBurst, Long: 3, Turns: math.MaxFloat32, Size: 3}, 0, 0, 0, nan, 0)
}

func TestBursts(t *testing.T) {
	z := negativeZero
	isWaveList(t, "quarters", impl.Wave{Kind: impl.WaveBurst, Long: 4, Turns: 0.25, Size: 8}, 0, 0, 4, z, -4, 0, 0, 0)
	isWaveList(t, "quarters of a half", impl.Wave{Kind: impl.WaveBurst, Long: 2, Turns: 0.25, Size: 2}, 0, 0, 2, 0)
	isWaveList(t, "later quarters", impl.Wave{Kind: impl.WaveBurst, At: 3, Long: 2, Turns: -0.25, Size: 2}, 2, 0, z, -2, 0)
	isWaveList(t, "one step", impl.Wave{Kind: impl.WaveBurst, Long: 1, Turns: 0.25, Size: 2}, 0, 0, 0)
	isWaveList(t, "one step less than 0", impl.Wave{Kind: impl.WaveBurst, At: 1, Long: 1, Turns: 0.25, Size: -2}, 0, 0, z, 0)
	isWaveList(t, "the last steps", impl.Wave{Kind: impl.WaveBurst, At: maxTicks - 2, Long: 4, Turns: 0.25, Size: 8}, maxTicks-3, 0, 0, 4, z)
	isWaveList(t, "the middle of what is long", impl.Wave{Kind: impl.WaveBurst, Long: maxTicks, Turns: 0.25, Size: 8}, maxTicks/2, 0, 8, z, -8)
	isWaveList(t, "the end of what is long", impl.Wave{Kind: impl.WaveBurst, Long: maxTicks, Turns: 0.25, Size: 8}, maxTicks-1, z, 0)
}

func TestRamps(t *testing.T) {
	isWaveList(t, "thirds", impl.Wave{Kind: impl.WaveRamp, At: 2, Long: 3, Size: 3}, 0, 0, 0, 1, 2, 3, 3, 3)
	isWaveList(t, "thirds less than 0", impl.Wave{Kind: impl.WaveRamp, Long: 3, Size: -3}, 0, -1, -2, -3, -3, -3)
	isWaveList(t, "one step", impl.Wave{Kind: impl.WaveRamp, At: 1, Long: 1, Size: 3}, 0, 0, 3, 3, 3)
	isWaveList(t, "the last steps", impl.Wave{Kind: impl.WaveRamp, At: maxTicks - 1, Long: 4, Size: 8}, maxTicks-2, 0, 2, 4)
	isWaveList(t, "a quarter of what is long", impl.Wave{Kind: impl.WaveRamp, Long: maxTicks, Size: 8}, maxTicks/4-1, 2)
	isWaveList(t, "the end of what is long", impl.Wave{Kind: impl.WaveRamp, Long: maxTicks, Size: 8}, maxTicks-1, 8, 8)
	isWaveList(t, "other fields", impl.Wave{Kind: impl.WaveRamp, Long: 2, Size: 8, Turns: 0.3, Seed: 5}, 0, 4, 8, 8)
	isWaveList(t, "the least size", impl.Wave{Kind: impl.WaveRamp, Long: 7, Size: 0x1p-149}, 2, 0, 0x1p-149, 0x1p-149)
}

// The first numbers of the seeds 0 and 1 are 21468, 24, 11348 and 5758, 17082, 28406.
func TestNoise(t *testing.T) {
	isWaveList(t, "the seed 0", impl.Wave{Kind: impl.WaveNoise, Long: 3, Size: 16384}, 0, 5084, -16360, -5036, 0)
	isWaveList(t, "the seed 1", impl.Wave{Kind: impl.WaveNoise, Long: 3, Size: -16384, Seed: 1}, 0, 10626, -698, -12022, 0)
	isWaveList(t, "later noise", impl.Wave{Kind: impl.WaveNoise, At: 1, Long: 2, Size: 16384}, 0, 0, -16360, -5036, 0)
	for _, seed := range []int64{0, 1, 2, 40503, seeds - 40503, seeds / 2, seeds - 2, seeds - 1} {
		for _, step := range []int64{0, 1, 2, 3, 1000, 65536, maxTicks - 1, maxTicks} {
			want := float32(noiseOf(seed, step)) - 16384
			for _, at := range []int64{max(0, step-maxTicks+1), (step + 1) / 2, step} {
				w := impl.Wave{Kind: impl.WaveNoise, At: at, Long: step - at + 1, Turns: 0.5, Size: 16384, Seed: seed}
				isWave(t, "noise", w, step, want)
			}
		}
	}
}

func TestLeastAndGreatestNoise(t *testing.T) {
	for seed, want := range map[int64]float32{204577074: -1, 1167983449: -1, 1278318898: 0, 94241625: 0, 1985517874: 1 - 0x1p-14, 801440601: 1 - 0x1p-14} {
		isWaveList(t, "noise", impl.Wave{Kind: impl.WaveNoise, Long: 1, Size: 1, Seed: seed}, 0, want)
		isWaveList(t, "great noise", impl.Wave{Kind: impl.WaveNoise, Long: 1, Size: math.MaxFloat32, Seed: seed}, 0, want*math.MaxFloat32)
	}
}

// Of noise, the steps alone decide, and not when it begins or ends.
func TestNoiseKeepsItsSteps(t *testing.T) {
	source := numbers{110}
	for range 300 {
		w := anyWave(&source, impl.WaveNoise)
		w.Size = 1
		other := w
		other.At, other.Long, other.Turns = below(&source, 40), 1+below(&source, 40), near(&source)
		for step := range int64(100) {
			a, _ := impl.WaveAt(w, step)
			b, _ := impl.WaveAt(other, step)
			if step >= max(w.At, other.At) && step < min(w.At+w.Long, other.At+other.Long) {
				isNumber(t, fmt.Sprint("noise of ", w, other, step), b, a)
			}
			is(t, "noise is from -1 to less than 1", -1 <= a && a < 1, true)
		}
		later, ok := impl.LaterWave(w, 2)
		is(t, "LaterWave succeeds", ok, true)
		for step := w.At + 2; step < w.At+w.Long; step++ {
			x, ok := impl.WaveAt(w, step)
			is(t, "WaveAt succeeds", ok, true)
			isWave(t, "later noise", later, step, x)
		}
	}
}

// The numbers of this table, and the digests below, are those of a second
// program in another language, which follows the document step by step.
var waves = []struct {
	w     impl.Wave
	steps []int64
	words string
}{
	{impl.Wave{Kind: impl.WaveTone, Long: 4, Turns: 0.1, Size: 3},
		[]int64{0, 1, 2, 3, 7, 100, maxTicks},
		"00000000 3fe1b5a4 40369a55 40369a54 c0369a54 00000000 00000000"},
	{impl.Wave{Kind: impl.WaveTone, Long: 1, Turns: -0.3, Size: 1.0 / 3},
		[]int64{0, 1, 5, maxTicks - 1, maxTicks},
		"80000000 bea2504b 80000000 3ea7632a 00000000"},
	{impl.Wave{Kind: impl.WaveTone, At: maxTicks, Long: 1, Turns: 0.1, Size: 1},
		[]int64{maxTicks - 1, maxTicks},
		"00000000 00000000"},
	{impl.Wave{Kind: impl.WaveTone, At: 2, Long: 1, Turns: 1234.56, Size: -1.5e-5},
		[]int64{3, 4, 5, 6, maxTicks},
		"36b97496 b72c682e 3763d34c b77b2f44 80000000"},
	{impl.Wave{Kind: impl.WaveBurst, Long: 7, Turns: 0.1, Size: 3},
		[]int64{0, 1, 2, 3, 4, 5, 6, 7},
		"00000000 3ea9f6bf 3fdf3c5d 402d8fa9 3fd6888c 80000000 bea9f6b9 00000000"},
	{impl.Wave{Kind: impl.WaveBurst, At: 5, Long: 1000, Turns: -0.37, Size: 1.0 / 3},
		[]int64{6, 7, 500, 504, 505, 506, 999, 1004, 1005},
		"b620dbec 375c65c7 be8a0b3f 3e78d375 00000000 be78d375 38f3f49b 3620dd1c 00000000"},
	{impl.Wave{Kind: impl.WaveBurst, Long: maxTicks, Turns: 0.37, Size: 1.0 / 3},
		[]int64{1000, 300000, 500001, 700000, 999001, maxTicks - 1, maxTicks},
		"00000000 00000000 3e715bef 00000000 361b9041 80000000 00000000"},
	{impl.Wave{Kind: impl.WaveRamp, Long: 7, Size: 1.0 / 3},
		[]int64{0, 1, 2, 3, 4, 5, 6, 7},
		"3d430c32 3dc30c32 3e124925 3e430c32 3e73cf3e 3e924925 3eaaaaab 3eaaaaab"},
	{impl.Wave{Kind: impl.WaveRamp, Long: maxTicks, Size: 1.0 / 3},
		[]int64{0, 1, 499999, 999998, maxTicks - 1, maxTicks},
		"34b2f4fc 3532f4fc 3e2aaaab 3eaaaaa0 3eaaaaab 3eaaaaab"},
	{impl.Wave{Kind: impl.WaveRamp, At: 999999, Long: 3, Size: -7},
		[]int64{999998, maxTicks - 1, maxTicks},
		"00000000 c0155556 c0955556"},
	{impl.Wave{Kind: impl.WaveNoise, Long: maxTicks, Size: 1},
		[]int64{0, 1, 2, maxTicks - 1, maxTicks},
		"3e9ee000 bf7fa000 be9d6000 3edcc000 00000000"},
	{impl.Wave{Kind: impl.WaveNoise, Long: maxTicks, Size: 1, Seed: 1},
		[]int64{0, 1, 2, maxTicks - 1, maxTicks},
		"bf260800 3d2e8000 3f3bd800 bf071400 00000000"},
	{impl.Wave{Kind: impl.WaveNoise, Long: maxTicks, Size: 1, Seed: seeds - 1},
		[]int64{0, 1, 2, maxTicks - 1, maxTicks},
		"bf3b1c00 bd22c000 3f26c400 bf1c2800 00000000"},
	{impl.Wave{Kind: impl.WaveNoise, At: 1, Long: maxTicks, Size: 1},
		[]int64{0, 1, maxTicks},
		"00000000 bf7fa000 bf60b000"},
	{impl.Wave{Kind: impl.WaveNoise, At: 1, Long: maxTicks, Size: 1, Seed: seeds - 1},
		[]int64{0, 1, maxTicks},
		"00000000 bd22c000 3da62000"},
	{impl.Wave{Kind: impl.WaveNoise, Long: 10, Size: math.MaxFloat32, Seed: 12345},
		[]int64{3},
		"fea23fff"},
	{impl.Wave{Kind: impl.WaveNoise, Long: 10, Size: 1.0 / 3, Seed: 12345},
		[]int64{0, 1, 2, 3, 4},
		"be054000 3dcd5556 3ea94aab bdd85556 3dff8000"},
	{impl.Wave{Kind: impl.WaveNoise, Long: 1, Size: 1, Seed: 204577074},
		[]int64{0},
		"bf800000"},
	{impl.Wave{Kind: impl.WaveNoise, Long: 1, Size: 1, Seed: 1278318898},
		[]int64{0},
		"00000000"},
	{impl.Wave{Kind: impl.WaveNoise, Long: 1, Size: 1, Seed: 1985517874},
		[]int64{0},
		"3f7ffc00"},
}

func TestWavesOfASecondProgram(t *testing.T) {
	for _, c := range waves {
		words := strings.Fields(c.words)
		is(t, "how many words", len(words), len(c.steps))
		for i, step := range c.steps {
			x, ok := impl.WaveAt(c.w, step)
			is(t, fmt.Sprint("WaveAt of ", c.w, " at ", step, " succeeds"), ok, true)
			is(t, fmt.Sprint("WaveAt of ", c.w, " at ", step), wordOf(x), words[i])
		}
	}
}

func TestWavesToTheLastBit(t *testing.T) {
	for _, c := range []struct {
		make  func(source *numbers, kind int64) impl.Wave
		kind  int64
		steps int64
		want  digest
	}{
		{anyWave, 0, 90, 0x9cb06f4cea4ea351},
		{anyWave, 1, 90, 0xedd2ace2794d6c1c},
		{anyWave, 2, 90, 0xf03f424675ae7cb5},
		{anyWave, 3, 90, 0xb1df1ce48534e121},
		{anyWave, 4, 90, 0x211aeb34d4a2bcab},
		{longWave, 0, maxTicks + 1, 0x6c5897316d7b387e},
		{longWave, 1, maxTicks + 1, 0x5a73ed29f2a71913},
		{longWave, 2, maxTicks + 1, 0xb5b2f8bfbe6a904e},
		{longWave, 3, maxTicks + 1, 0x72a6a7de3a6315fa},
		{longWave, 4, maxTicks + 1, 0xf59030d05c5c5819},
		{farWave, 0, maxTicks + 1, 0x39494230c17d2c45},
		{farWave, 1, maxTicks + 1, 0x8286d09543d6051a},
		{farWave, 2, maxTicks + 1, 0x8f43122128687a75},
		{farWave, 3, maxTicks + 1, 0x32558d204dbf25cd},
		{farWave, 4, maxTicks + 1, 0x769b5873486a477d},
	} {
		source, got := numbers{uint64(100 + c.kind)}, newDigest
		for range 2000 {
			w := c.make(&source, c.kind)
			x, ok := impl.WaveAt(w, below(&source, c.steps))
			is(t, "WaveAt succeeds", ok, true)
			got = got.with(bitsOf(x))
		}
		is(t, fmt.Sprint("the digest of waves of the kind ", c.kind), got, c.want)
	}
}

// longWave returns a wave that begins soon and may end late.
func longWave(source *numbers, kind int64) impl.Wave {
	w := anyWave(source, kind)
	w.Long = 1 + below(source, maxTicks)
	return w
}

func TestWavesAreWhatTheDocumentTells(t *testing.T) {
	source := numbers{111}
	for n := range int64(4000) {
		w := anyWave(&source, n%5)
		for _, step := range []int64{0, w.At - 1, w.At, w.At + 1, w.At + w.Long - 1, w.At + w.Long, below(&source, 90), maxTicks} {
			isWave(t, "a wave", w, max(0, step), valueOf(w, max(0, step)))
		}
		w = farWave(&source, n%5)
		for _, step := range []int64{0, w.At - 1, w.At, w.At + 1, w.At + w.Long - 1, w.At + w.Long, below(&source, maxTicks+1), maxTicks} {
			step = min(max(0, step), maxTicks)
			isWave(t, "a wave", w, step, valueOf(w, step))
		}
	}
}

func TestWavesOfSpecialSizes(t *testing.T) {
	for _, bits := range specialBits {
		x := numberOf(bits)
		for _, kind := range someWaveKinds {
			for _, turns := range []float32{0.25, -0.25, 0.1, 1, negativeZero, math.MaxFloat32} {
				w := impl.Wave{Kind: kind, At: 2, Long: 4, Turns: turns, Size: x, Seed: 1278318898 - 2*40503}
				is(t, fmt.Sprint("ValidWave ", w), impl.ValidWave(w), true)
				isWaveList(t, "what has not begun", w, 0, 0, 0)
				for step := range int64(10) {
					isWave(t, "a special size", w, step, valueOf(w, step))
				}
				if kind != impl.WaveTone && kind != impl.WaveRamp {
					isWaveList(t, "what has ended", w, 6, 0, 0, 0)
				}
			}
		}
		isWaveList(t, "a pulse", impl.Wave{Long: 1, Size: x}, 0, x, 0)
		isWaveList(t, "a ramp", impl.Wave{Kind: impl.WaveRamp, Long: 1, Size: x}, 0, x, x)
		isWaveList(t, "noise that is zero", impl.Wave{Kind: impl.WaveNoise, Long: 1, Size: x, Seed: 1278318898}, 0, x*0, 0)
		isWaveList(t, "noise that is -1", impl.Wave{Kind: impl.WaveNoise, Long: 1, Size: x, Seed: 204577074}, 0, -x, 0)
	}
	inf, nan, z := infinity, notANumber, negativeZero
	isWaveList(t, "an infinite tone", impl.Wave{Kind: impl.WaveTone, Long: 1, Turns: 0.25, Size: inf}, 0, nan, inf, nan, -inf)
	isWaveList(t, "an infinite burst", impl.Wave{Kind: impl.WaveBurst, Long: 4, Turns: 0.25, Size: -inf}, 0, nan, -inf, nan, inf, 0)
	isWaveList(t, "an infinite ramp", impl.Wave{Kind: impl.WaveRamp, At: 1, Long: 2, Size: -inf}, 0, 0, -inf, -inf, -inf)
	isWaveList(t, "a tone of -0", impl.Wave{Kind: impl.WaveTone, At: 1, Long: 1, Turns: 0.25, Size: z}, 0, 0, z, z, 0, 0)
	isWaveList(t, "a ramp of -0", impl.Wave{Kind: impl.WaveRamp, At: 1, Long: 2, Size: z}, 0, 0, z, z, z)
}

func TestWavesThatAreRefused(t *testing.T) {
	for _, w := range badWaves() {
		is(t, fmt.Sprint("ValidWave ", w), impl.ValidWave(w), false)
		for _, step := range []int64{0, 3, maxTicks} {
			isNoWave(t, w, step)
			for _, count := range []int64{0, 1} {
				isNoWaveList(t, w, step, count)
			}
		}
		for _, by := range []int64{0, 1, -1, -maxTicks, maxTicks} {
			isNoLaterWave(t, w, by)
		}
	}
	is(t, "ValidWave of zeros", impl.ValidWave(impl.Wave{}), false)
}

func isNoWaveList(t *testing.T, w impl.Wave, from, count int64) {
	t.Helper()
	list, ok := impl.WaveList(w, from, count)
	is(t, fmt.Sprint("WaveList of ", w, " from ", from, " for ", count), fmt.Sprint(len(list), ok), "0 false")
}

func isNoLaterWave(t *testing.T, w impl.Wave, by int64) {
	t.Helper()
	later, ok := impl.LaterWave(w, by)
	is(t, fmt.Sprint("LaterWave of ", w, " by ", by), told(later, ok), told(impl.Wave{}, false))
}

func TestWavesAtTheirLimits(t *testing.T) {
	for _, kind := range someWaveKinds {
		for _, at := range []int64{0, 1, maxTicks - 1, maxTicks} {
			for _, long := range []int64{1, 2, maxTicks - 1, maxTicks} {
				for _, seed := range []int64{0, seeds - 1} {
					for _, turns := range []float32{0, negativeZero, least, math.MaxFloat32, -math.MaxFloat32} {
						w := impl.Wave{Kind: kind, At: at, Long: long, Turns: turns, Size: 1, Seed: seed}
						is(t, fmt.Sprint("ValidWave ", w), impl.ValidWave(w), true)
						for _, step := range []int64{0, 1, maxTicks - 1, maxTicks} {
							isWave(t, "a limit", w, step, valueOf(w, step))
						}
					}
				}
			}
		}
	}
}

var noSteps = []int64{-1, -2, maxTicks + 1, maxTicks + 2, 1 << 32, 1<<32 + 1, math.MaxInt64, math.MaxInt64 - 1, math.MinInt64}

func TestStepsOfWavesThatAreRefused(t *testing.T) {
	for _, kind := range someWaveKinds {
		w := impl.Wave{Kind: kind, At: 3, Long: 5, Turns: 0.25, Size: 1}
		for _, step := range noSteps {
			isNoWave(t, w, step)
			for _, count := range []int64{0, 1, 2, maxRecord} {
				isNoWaveList(t, w, step, count)
			}
		}
		for _, count := range []int64{-1, maxRecord + 1, 256, 1 << 32, math.MaxInt64, math.MinInt64} {
			for _, from := range []int64{0, 1, maxTicks} {
				isNoWaveList(t, w, from, count)
			}
		}
	}
}

func TestWaveListsAtTheLastSteps(t *testing.T) {
	w := impl.Wave{Kind: impl.WaveRamp, At: maxTicks, Long: 1, Size: 2}
	for count := int64(1); count <= maxRecord; count++ {
		list, ok := impl.WaveList(w, maxTicks+1-count, count)
		want := make([]float32, count)
		want[count-1] = 2
		isList(t, fmt.Sprint("WaveList of ", count), list, ok, want...)
		isNoWaveList(t, w, maxTicks+2-count, count)
	}
	for _, from := range []int64{0, 1, maxTicks} {
		list, ok := impl.WaveList(w, from, 0)
		isList(t, fmt.Sprint("WaveList of no steps from ", from), list, ok)
	}
}

func TestWaveListsAreWavesAtTheirSteps(t *testing.T) {
	source := numbers{112}
	for n := range int64(500) {
		w := anyWave(&source, n%5)
		from, count := below(&source, 60), below(&source, maxRecord+1)
		if n%3 == 0 {
			count = maxRecord
		}
		var want []float32
		for i := range count {
			want = append(want, valueOf(w, from+i))
		}
		isWaveList(t, "a wave", w, from, want...)
	}
}

func TestLaterWaves(t *testing.T) {
	w := impl.Wave{Kind: impl.WaveBurst, At: 5, Long: 3, Turns: negativeZero, Size: notANumber, Seed: 9}
	for _, by := range []int64{0, 1, -5, -1, maxTicks - 5, maxTicks - 6} {
		later, ok := impl.LaterWave(w, by)
		want := w
		want.At += by
		is(t, fmt.Sprint("LaterWave by ", by), told(later, ok), told(want, true))
	}
	for _, by := range []int64{-6, -7, maxTicks - 4, maxTicks, maxTicks + 1, -maxTicks, -maxTicks - 1, 1 << 32, -1 << 32, math.MaxInt64, math.MinInt64} {
		isNoLaterWave(t, w, by)
	}
	for _, kind := range someWaveKinds {
		first, last := impl.Wave{Kind: kind, Long: 1}, impl.Wave{Kind: kind, At: maxTicks, Long: 1}
		later, ok := impl.LaterWave(first, maxTicks)
		is(t, "the latest wave", told(later, ok), told(last, true))
		earlier, ok := impl.LaterWave(last, -maxTicks)
		is(t, "the earliest wave", told(earlier, ok), told(first, true))
		isNoLaterWave(t, first, -1)
		isNoLaterWave(t, last, 1)
	}
}

func TestLaterWavesHaveTheirValuesLater(t *testing.T) {
	source := numbers{113}
	for n := range int64(400) {
		w := anyWave(&source, n%4)
		by := below(&source, 30)
		later, ok := impl.LaterWave(w, by)
		is(t, "LaterWave succeeds", ok, true)
		for step := range int64(60) {
			x, ok := impl.WaveAt(w, step)
			is(t, "WaveAt succeeds", ok, true)
			isWave(t, "a later wave", later, step+by, x)
		}
	}
}

func TestNextSeed(t *testing.T) {
	for seed, want := range map[int64]int64{0: 12345, 1: 1103527590, 2: 59559187, 12345: 1406932606, seeds - 2: 2087949151, seeds - 1: 1043980748} {
		got, ok := impl.NextSeed(seed)
		is(t, fmt.Sprint("NextSeed ", seed), told(got, ok), told(want, true))
	}
	source := numbers{114}
	for range 2000 {
		seed := below(&source, seeds)
		got, ok := impl.NextSeed(seed)
		is(t, fmt.Sprint("NextSeed ", seed), told(got, ok), told(int64((uint32(seed)*1103515245+12345)&(1<<31-1)), true))
	}
	for _, seed := range []int64{-1, -2, seeds, seeds + 1, 1 << 32, 1 << 33, math.MaxInt64, math.MinInt64, -seeds} {
		got, ok := impl.NextSeed(seed)
		is(t, fmt.Sprint("NextSeed ", seed), told(got, ok), told(int64(0), false))
	}
}
