package tests

import (
	"fmt"
	"math"
	"testing"

	"loop.example/g01201/impl"
)

// The middle of the smallest sheet would swing on its own: 0, -2, -2 and so on.
func TestRunOfTheSmallestSheet(t *testing.T) {
	c := plainScene(3, 3, false, 0.5, 0).with(map[int]float32{4: 2})
	probes := []impl.Probe{{X: 1, Y: 1}, {X: 0, Y: 1}}
	isRun := func(what string, sources []impl.Source, want ...float32) {
		t.Helper()
		got := c.play(t, sources, probes, 0, int64(len(want)))
		is(t, what, told(got.records), told([][]float32{want, make([]float32, len(want))}))
	}
	isRun("no source", nil, 0, -2, -2, 0, 2, 2, 0)
	isRun("a pulse that is added", []impl.Source{sourceAt(1, 1, impl.Wave{Long: 1, Size: 2})}, 2, -2, -4, -2, 2, 4)
	isRun("a later pulse", []impl.Source{sourceAt(1, 1, impl.Wave{At: 1, Long: 1, Size: 2})}, 0, 0, -2, -2, 0, 2)
	put := sourceAt(1, 1, impl.Wave{At: 1, Long: 2, Size: 2})
	put.Hard = true
	isRun("a pulse that is put", []impl.Source{put}, 0, 2, 2, 0, 0, 0)
}

func TestRunOfTheExample(t *testing.T) {
	for _, wrap := range []bool{false, true} {
		c := plainScene(4, 3, wrap, 0.5, 0)
		source := []impl.Source{{X: 1, Y: 1, Hard: true, Wave: impl.Wave{Long: 1, Size: 2}}}
		got := c.play(t, source, []impl.Probe{{X: 1, Y: 1}, {X: 2, Y: 1}, {X: 3, Y: 1}}, 0, 3)
		want := [][]float32{{2, 0, 0}, {0, 0.5, 0.5}, {0, 0, 0}}
		if wrap {
			want = [][]float32{{2, 0, 0}, {0, 0.5, 0.5}, {0, 0, 0.25}}
		}
		is(t, fmt.Sprint("the records ", wrap), told(got.records), told(want))
	}
}

// The digests are those of a second program, in another language, that follows
// the document.
func TestRunsWithSourcesOfASecondProgram(t *testing.T) {
	for _, c := range []struct {
		seed            uint64
		wide, high      int64
		wrap            bool
		sources, probes int
		from, count     int64
		want            digest
	}{
		{200, 3, 3, false, 1, 1, 0, maxRecord, 0xdd9180cada1e8b17},
		{201, 3, 3, true, 1, 1, 0, maxRecord, 0x47657e7133f5ed99},
		{202, 3, 3, false, 8, 8, 5, maxRecord, 0xa1e20f39d6c18fe7},
		{203, 3, 3, true, 8, 8, 5, maxRecord, 0x907e8cf3acb5aada},
		{204, 7, 4, false, 5, 8, 0, maxRecord, 0xef395a77bc071f00},
		{205, 4, 7, true, 5, 8, 0, maxRecord, 0xd85c0bbb1bc6895a},
		{206, 7, 4, true, 8, 3, maxTicks - 63, maxRecord, 0xc465685b0ab2b3aa},
		{207, 4, 7, false, 8, 3, maxTicks - 63, maxRecord, 0x1dbec1cc3c9af4cf},
		{208, 16, 16, false, 8, 8, 0, maxRecord, 0x16534bf225a4c8d6},
		{209, 16, 16, true, 8, 8, 0, maxRecord, 0x7da9461911bdf973},
		{210, 16, 3, false, 2, 8, 123456, 33, 0x145efb272a3f6469},
		{211, 3, 16, true, 2, 8, 123456, 33, 0x32aad2aca5916c58},
		{212, 9, 8, false, 0, 4, 7, maxRecord, 0x34dd4a6bf2e87a68},
		{213, 9, 8, true, 6, 0, 7, maxRecord, 0xe2bd697345cc69da},
		{214, 5, 6, false, 8, 8, 30, 1, 0xc013b6fa5861218e},
		{215, 6, 5, true, 8, 8, 30, 1, 0x366f5c4c21db7a97},
		{216, 5, 6, true, 8, 8, 20, 0, 0x86be011a4a69aabb},
	} {
		source := numbers{c.seed}
		from := anyScene(&source, c.wide, c.high, c.wrap, near)
		sources := anySources(&source, from.s, c.sources, c.from)
		played := from.play(t, sources, anyProbes(&source, from.s, c.probes), c.from, c.count)
		got := newDigest
		lists := listsOf(played.f)
		for _, list := range append(played.records, lists[:]...) {
			for _, x := range list {
				got = got.with(bitsOf(x))
			}
		}
		is(t, fmt.Sprintf("the digest of %+v", c), got, c.want)
	}
}

func TestRunsOfAllShapes(t *testing.T) {
	source := numbers{130}
	for kind, number := range someKinds {
		eachScene(131, number, func(c scene) {
			from := picked(&source, []int64{0, 0, 1, 17, 999, maxTicks - 100})
			sources := anySources(&source, c.s, int(below(&source, maxSources+1)), from)
			probes := anyProbes(&source, c.s, int(below(&source, maxProbes+1)))
			got := c.play(t, sources, probes, from, 4)
			isRecording(t, fmt.Sprint("a run of ", kind, c.s.Wide, c.s.High, c.s.Wrap), got, c.played(sources, probes, from, 4))
			is(t, "the last field is a field", impl.IsField(c.s, got.f), true)
		})
	}
}

func TestRunsWithSourcesOfAllLengths(t *testing.T) {
	source := numbers{132}
	for _, wrap := range []bool{false, true} {
		c := anyScene(&source, 6, 5, wrap, near)
		sources, probes := anySources(&source, c.s, maxSources, 3), anyProbes(&source, c.s, maxProbes)
		probes[7] = probes[0]
		for count := range int64(maxRecord + 1) {
			got := c.play(t, sources, probes, 3, count)
			isRecording(t, fmt.Sprint("a run of ", count), got, c.played(sources, probes, 3, count))
			is(t, "a cell that is probed twice", told(got.records[7]), told(got.records[0]))
			for _, list := range got.records {
				is(t, "how long a record is", len(list), int(count))
			}
		}
	}
}

func TestRunsOfNoSteps(t *testing.T) {
	source := numbers{133}
	for _, wrap := range []bool{false, true} {
		c := anyScene(&source, 5, 4, wrap, special)
		hard := []impl.Source{{X: 2, Y: 2, Hard: true, Wave: aPulse}}
		for _, from := range []int64{0, 1, maxTicks} {
			for probes := range maxProbes + 1 {
				got := c.play(t, hard, anyProbes(&source, c.s, probes), from, 0)
				isRecording(t, "a run of no steps", got, recording{make([][]float32, probes), c.f})
			}
		}
	}
}

func TestRunsWithoutSourcesAreRunsOfFields(t *testing.T) {
	eachScene(134, near, func(c scene) {
		count := (c.s.Wide*7 + c.s.High) % 9
		records, f, ok := impl.RunSources(c.s, c.f, nil, nil, 5, count)
		is(t, "RunSources succeeds without records", fmt.Sprint(len(records), ok), "0 true")
		ran := c.ran(t, count)
		isField(t, "the last field", f, ok, ran.f)
		trace, ok := impl.TraceOf(c.s, c.f, 1, 2, count)
		got := c.play(t, []impl.Source{}, []impl.Probe{{X: 1, Y: 2}}, 5, count)
		isList(t, "TraceOf", trace, ok, got.records[0]...)
	})
}

// A run is what its parts are, as far as the functions of the chapter tell them.
func TestRunsAreStepsThatAreFedAndRead(t *testing.T) {
	source := numbers{135}
	for n := range 60 {
		c := anyScene(&source, 3+int64(n%9), 3+int64(n%5), n%2 == 0, near)
		sources, probes := anySources(&source, c.s, 1+n%maxSources, 10), anyProbes(&source, c.s, maxProbes)
		got := c.play(t, sources, probes, 10, 20)
		f := c.f
		for i := range int64(20) {
			stepped, ok := impl.StepField(c.s, f)
			is(t, "StepField succeeds", ok, true)
			f, ok = impl.FeedField(c.s, stepped, sources, 10+i)
			is(t, "FeedField succeeds", ok, true)
			read, ok := impl.ReadProbes(c.s, f, probes)
			var want []float32
			for k := range probes {
				want = append(want, got.records[k][i])
			}
			isList(t, fmt.Sprint("what is read behind ", i), read, ok, want...)
		}
		isField(t, "the last field", got.f, true, f)
	}
}

func TestHardSourcesSilenceTheirCells(t *testing.T) {
	source := numbers{136}
	for _, wrap := range []bool{false, true} {
		for _, kind := range someWaveKinds {
			c := anyScene(&source, 5, 5, wrap, near)
			w := impl.Wave{Kind: kind, At: 20, Long: 10, Turns: 0.2, Size: 3, Seed: 77}
			sources := []impl.Source{sourceAt(2, 2, impl.Wave{Long: maxTicks, Size: 9}), {X: 2, Y: 2, Hard: true, Wave: w}}
			got := c.play(t, sources, []impl.Probe{{X: 2, Y: 2}}, 0, maxRecord)
			want, ok := impl.WaveList(w, 0, maxRecord)
			isList(t, fmt.Sprint("what a hard source leaves, ", kind), want, ok, got.records[0]...)
			for step, x := range got.records[0] {
				ends := kind != impl.WaveTone && kind != impl.WaveRamp
				if step < 20 || ends && step >= 30 {
					isNumber(t, fmt.Sprint("silence at ", step), x, 0)
				}
			}
		}
	}
}

// What a hard source has in its cell is all that others see of the cell.
func TestHardSourcesThatAreSilentAreWalls(t *testing.T) {
	for _, wrap := range []bool{false, true} {
		c := plainScene(7, 3, wrap, 0.5, 0).with(map[int]float32{8: 1})
		var walls []impl.Source
		for y := range int64(3) {
			for _, x := range []int64{3, 6} {
				if free, _, _ := isFree(c.s, x, y); free {
					walls = append(walls, impl.Source{X: x, Y: y, Hard: true, Wave: impl.Wave{At: maxTicks, Long: 1, Size: 1}})
				}
			}
		}
		got := c.play(t, walls, []impl.Probe{{X: 1, Y: 1}, {X: 2, Y: 1}, {X: 4, Y: 1}, {X: 5, Y: 1}}, 0, maxRecord)
		for k, records := range got.records {
			isSilent := true
			for _, x := range records {
				isSilent = isSilent && x == 0
			}
			is(t, fmt.Sprint("silence of the probe ", k), isSilent, k >= 2)
		}
	}
}

func TestRunsAtTheLastSteps(t *testing.T) {
	source := numbers{137}
	for _, wrap := range []bool{false, true} {
		c := anyScene(&source, 4, 4, wrap, near)
		sources := anySources(&source, c.s, 5, maxTicks-60)
		probes := anyProbes(&source, c.s, 2)
		for count := range int64(maxRecord + 1) {
			from := min(maxTicks, maxTicks+1-count)
			isRecording(t, fmt.Sprint("a run of ", count), c.play(t, sources, probes, from, count), c.played(sources, probes, from, count))
			if count > 0 {
				isNoRecording(t, fmt.Sprint("beyond the last step, ", count), c, sources, probes, from+1, count)
				isNoRecording(t, fmt.Sprint("beyond the last step, ", count), c, nil, nil, from+1, count)
			}
		}
	}
}

func TestRunsThatAreRefused(t *testing.T) {
	source := numbers{138}
	for _, wrap := range []bool{false, true} {
		c := anyScene(&source, 4, 4, wrap, near)
		for _, sources := range [][]impl.Source{nil, anySources(&source, c.s, 2, 0)} {
			for _, probes := range [][]impl.Probe{nil, {{X: 1, Y: 1}, {X: 2, Y: 2}}} {
				for _, from := range noSteps {
					for _, count := range []int64{0, 1, maxRecord} {
						isNoRecording(t, fmt.Sprint("from ", from, " for ", count), c, sources, probes, from, count)
					}
				}
				for _, count := range []int64{-1, -2, maxRecord + 1, maxRecord + 2, 256, 1 << 32, 1<<32 + 1, math.MaxInt64, math.MinInt64} {
					for _, from := range []int64{0, 1, maxTicks} {
						isNoRecording(t, fmt.Sprint("from ", from, " for ", count), c, sources, probes, from, count)
					}
				}
			}
		}
	}
}

func TestRunsOfSpecialSizes(t *testing.T) {
	for _, bits := range specialBits {
		for _, kind := range someWaveKinds {
			for _, hard := range []bool{false, true} {
				c := plainScene(4, 4, true, 0.5, 0.25)
				w := impl.Wave{Kind: kind, At: 1, Long: 3, Turns: 0.25, Size: numberOf(bits), Seed: 5}
				sources := []impl.Source{{X: 1, Y: 2, Hard: hard, Wave: w}}
				probes := []impl.Probe{{X: 1, Y: 2}, {X: 1, Y: 1}, {X: 3, Y: 0}}
				isRecording(t, fmt.Sprint("a run with ", w), c.play(t, sources, probes, 0, 6), c.played(sources, probes, 0, 6))
			}
		}
	}
}
