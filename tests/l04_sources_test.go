package tests

import (
	"fmt"
	"math"
	"slices"
	"testing"

	"loop.example/g01201/impl"
)

// someOutside are places that are not cells of a sheet 4 wide and 5 high.
var someOutside = [][2]int64{
	{-1, 0}, {0, -1}, {4, 0}, {0, 5}, {4, 5}, {-4, 2}, {1, -1}, {-1, 2}, {4, 2}, {2, 5}, {6, 1}, {1, 9}, {19, 0}, {5, -1},
	{math.MinInt64, 1}, {1, math.MinInt64}, {math.MaxInt64, 1}, {1, math.MaxInt64}, {1, 1 << 62}, {1 << 62, 3}, {1 << 32, 1}, {1, 1 << 32},
}

// badSheets are sheets that are not valid, 4 wide and 5 high or not.
func badSheets(wrap bool) []impl.Sheet {
	s := blankSheet(4, 5, wrap)
	speed, loss, short, long := copySheet(s), copySheet(s), copySheet(s), copySheet(s)
	speed.Speeds[19], loss.Losses[0], short.Losses = 0.75, notANumber, nil
	long.Speeds = append(long.Speeds, 0)
	return []impl.Sheet{
		speed, loss, short, long, {}, {Wrap: wrap},
		blankSheet(2, 5, wrap), blankSheet(4, 2, wrap), blankSheet(17, 5, wrap), blankSheet(4, 17, wrap),
		{Wide: math.MaxInt64, High: math.MaxInt64, Wrap: wrap}, {Wide: -4, High: -5, Wrap: wrap, Speeds: s.Speeds, Losses: s.Losses},
	}
}

var aPulse = impl.Wave{Long: 1, Size: 1}

func sourceAt(x, y int64, w impl.Wave) impl.Source { return impl.Source{X: x, Y: y, Wave: w} }

func TestSourcesInEachCell(t *testing.T) {
	eachShape(func(wide, high int64, wrap bool) {
		s := blankSheet(wide, high, wrap)
		for y := int64(-1); y <= high; y++ {
			for x := int64(-1); x <= wide; x++ {
				isCell := x >= 0 && x < wide && y >= 0 && y < high
				free := isCell
				if isCell {
					free, _, _ = isFree(s, x, y)
				}
				what := fmt.Sprint(wide, high, wrap, x, y)
				for _, hard := range []bool{false, true} {
					is(t, "AreSources "+what, impl.AreSources(s, []impl.Source{{X: x, Y: y, Hard: hard, Wave: aPulse}}), free)
				}
				is(t, "AreProbes "+what, impl.AreProbes(s, []impl.Probe{{X: x, Y: y}}), isCell)
			}
		}
	})
}

func TestSourcesAndProbesOutsideTheSheet(t *testing.T) {
	for _, wrap := range []bool{false, true} {
		s := blankSheet(4, 5, wrap)
		f := blankField(s)
		for _, at := range someOutside {
			for n := range maxSources {
				sources := repeated(sourceAt(1, 1, aPulse), maxSources)
				sources[n].X, sources[n].Y = at[0], at[1]
				refusesSources(t, fmt.Sprint("at ", at), scene{s, f}, sources)
				probes := repeated(impl.Probe{X: 1, Y: 1}, maxProbes)
				probes[n] = impl.Probe{X: at[0], Y: at[1]}
				refusesProbes(t, fmt.Sprint("at ", at), scene{s, f}, probes)
			}
		}
	}
}

// refusesSources checks that all functions with sources refuse some of them.
func refusesSources(t *testing.T, what string, c scene, sources []impl.Source) {
	t.Helper()
	is(t, "AreSources "+what, impl.AreSources(c.s, sources), false)
	f, ok := impl.FeedField(c.s, c.f, sources, 0)
	isNoField(t, "FeedField "+what, f, ok)
	for _, count := range []int64{0, 1} {
		isNoRecording(t, what, c, sources, nil, 0, count)
		isNoRecording(t, what, c, sources, []impl.Probe{{X: 1, Y: 1}}, 0, count)
	}
}

// refusesProbes checks that all functions with probes refuse some of them.
func refusesProbes(t *testing.T, what string, c scene, probes []impl.Probe) {
	t.Helper()
	is(t, "AreProbes "+what, impl.AreProbes(c.s, probes), false)
	read, ok := impl.ReadProbes(c.s, c.f, probes)
	is(t, "ReadProbes "+what, fmt.Sprint(len(read), ok), "0 false")
	for _, count := range []int64{0, 1} {
		isNoRecording(t, what, c, nil, probes, 0, count)
		isNoRecording(t, what, c, []impl.Source{sourceAt(1, 1, aPulse)}, probes, 0, count)
	}
}

func TestSourcesInTheBorder(t *testing.T) {
	c := plainScene(4, 5, false, 0.5, 0)
	joined := plainScene(4, 5, true, 0.5, 0)
	for i := range c.f.E {
		x, y := int64(i)%4, int64(i)/4
		silent := []impl.Source{sourceAt(x, y, impl.Wave{Long: 1})}
		is(t, "AreSources where edges are joined", impl.AreSources(joined.s, silent), true)
		if free, _, _ := isFree(c.s, x, y); !free {
			refusesSources(t, "in the border", c, silent)
		}
		is(t, "AreProbes", impl.AreProbes(c.s, []impl.Probe{{X: x, Y: y}}), true)
	}
}

func TestSourcesAndProbesThatAreTooMany(t *testing.T) {
	for _, wrap := range []bool{false, true} {
		c := plainScene(4, 5, wrap, 0.5, 0)
		for n := range 20 {
			sources, probes := repeated(sourceAt(2, 3, aPulse), n), repeated(impl.Probe{X: 2, Y: 3}, n)
			is(t, fmt.Sprint("AreSources ", n), impl.AreSources(c.s, sources), n <= maxSources)
			is(t, fmt.Sprint("AreProbes ", n), impl.AreProbes(c.s, probes), n <= maxProbes)
			if n > maxSources {
				refusesSources(t, fmt.Sprint("that are ", n), c, sources)
				refusesProbes(t, fmt.Sprint("that are ", n), c, probes)
				continue
			}
			fed, ok := impl.FeedField(c.s, c.f, sources, 0)
			isField(t, fmt.Sprint("FeedField with ", n), fed, ok, c.with(map[int]float32{14: float32(n)}).f)
			read, ok := impl.ReadProbes(c.s, fed, probes)
			isList(t, fmt.Sprint("ReadProbes with ", n), read, ok, repeated(float32(n), n)...)
		}
	}
}

func TestSourcesRequireWaves(t *testing.T) {
	c := plainScene(4, 5, true, 0.5, 0)
	for _, w := range badWaves() {
		for n := range 3 {
			sources := repeated(sourceAt(1, 1, aPulse), 3)
			sources[n].Wave = w
			refusesSources(t, fmt.Sprint("with the wave ", w), c, sources)
		}
	}
	refusesSources(t, "without a wave", c, []impl.Source{{X: 1, Y: 1}})
}

func TestSourcesAndProbesRequireSheets(t *testing.T) {
	for _, wrap := range []bool{false, true} {
		s := blankSheet(4, 5, wrap)
		is(t, "AreSources, none", impl.AreSources(s, nil) && impl.AreSources(s, []impl.Source{}), true)
		is(t, "AreProbes, none", impl.AreProbes(s, nil) && impl.AreProbes(s, []impl.Probe{}), true)
		for n, bad := range badSheets(wrap) {
			what := fmt.Sprint("of no sheet ", n)
			f := blankField(s)
			refusesSources(t, what, scene{bad, f}, nil)
			refusesSources(t, what, scene{bad, f}, []impl.Source{sourceAt(1, 1, aPulse)})
			refusesProbes(t, what, scene{bad, f}, nil)
			refusesProbes(t, what, scene{bad, f}, []impl.Probe{{X: 1, Y: 1}})
		}
	}
}

func TestFeedingAndReadingRequireFields(t *testing.T) {
	for n, c := range withoutField() {
		what := fmt.Sprint("of no field ", n)
		for _, sources := range [][]impl.Source{nil, {sourceAt(1, 1, aPulse)}} {
			f, ok := impl.FeedField(c.s, c.f, sources, 0)
			isNoField(t, "FeedField "+what, f, ok)
			for _, probes := range [][]impl.Probe{nil, {{X: 1, Y: 1}}} {
				isNoRecording(t, what, c, sources, probes, 0, 0)
				isNoRecording(t, what, c, sources, probes, 0, 2)
				read, ok := impl.ReadProbes(c.s, c.f, probes)
				is(t, "ReadProbes "+what, fmt.Sprint(len(read), ok), "0 false")
			}
		}
	}
}

// fedMiddle feeds the middle of a small sheet, in which e is.
func fedMiddle(t *testing.T, e float32, step int64, sources ...impl.Source) float32 {
	t.Helper()
	for i := range sources {
		sources[i].X, sources[i].Y = 1, 1
	}
	c := plainScene(3, 3, false, 0.5, 0).with(map[int]float32{4: e})
	f, ok := impl.FeedField(c.s, c.f, sources, step)
	is(t, "FeedField succeeds", ok, true)
	got := f.E[4]
	f.E[4] = e
	is(t, "all other numbers", told(f), told(c.f))
	return got
}

func soft(w impl.Wave) impl.Source { return impl.Source{Wave: w} }

func hard(w impl.Wave) impl.Source { return impl.Source{Hard: true, Wave: w} }

func TestSourcesThatAreHardOrNot(t *testing.T) {
	w := impl.Wave{At: 2, Long: 2, Size: 5}
	for step, value := range []float32{0, 0, 5, 5, 0, 0} {
		isNumber(t, fmt.Sprint("what is added at ", step), fedMiddle(t, 3, int64(step), soft(w)), 3+value)
		isNumber(t, fmt.Sprint("what is put at ", step), fedMiddle(t, 3, int64(step), hard(w)), value)
	}
	isNumber(t, "no source", fedMiddle(t, 3, 2), 3)
	isNumber(t, "no source and -0", fedMiddle(t, negativeZero, 2), negativeZero)
}

// A wave that is silent is +0: it is added, and it is put.
func TestSourcesThatAreSilent(t *testing.T) {
	for _, kind := range someWaveKinds {
		w := impl.Wave{Kind: kind, At: 4, Long: 2, Turns: 0.25, Size: negativeZero}
		for _, step := range []int64{0, 3, 6, 7, maxTicks} {
			if step > 4 && (kind == impl.WaveTone || kind == impl.WaveRamp) {
				continue
			}
			for _, bits := range specialBits {
				x := numberOf(bits)
				isNumber(t, "a hard source that is silent", fedMiddle(t, x, step, hard(w)), 0)
				isNumber(t, "a soft source that is silent", fedMiddle(t, x, step, soft(w)), x+0)
			}
		}
	}
	isNumber(t, "-0 and +0", fedMiddle(t, negativeZero, 0, soft(impl.Wave{At: 1, Long: 1})), 0)
	isNumber(t, "-0 and -0", fedMiddle(t, negativeZero, 0, soft(impl.Wave{Long: 1, Size: negativeZero})), negativeZero)
	isNumber(t, "-0 that is put", fedMiddle(t, 1, 0, hard(impl.Wave{Long: 1, Size: negativeZero})), negativeZero)
}

func TestSourcesInOneCell(t *testing.T) {
	size := func(x float32) impl.Wave { return impl.Wave{Long: 1, Size: x} }
	late := func(x float32) impl.Wave { return impl.Wave{At: 1, Long: 1, Size: x} }
	for _, c := range []struct {
		what    string
		e, want float32
		sources []impl.Source
	}{
		{"two that are added", 1, 111, []impl.Source{soft(size(10)), soft(size(100))}},
		{"one that is put last", 1, 100, []impl.Source{soft(size(10)), hard(size(100))}},
		{"one that is put first", 1, 110, []impl.Source{hard(size(100)), soft(size(10))}},
		{"one that is put between", 1, 1100, []impl.Source{soft(size(10)), hard(size(100)), soft(size(1000))}},
		{"two that are put", 1, 100, []impl.Source{hard(size(10)), hard(size(100))}},
		{"two that are put, and one between", 1, 100, []impl.Source{hard(size(10)), soft(size(1000)), hard(size(100))}},
		{"silence that is put last", 1, 0, []impl.Source{soft(size(10)), hard(late(100))}},
		{"silence that is put first", 1, 10, []impl.Source{hard(late(100)), soft(size(10))}},
		{"silence that is put, and then a sound", 1, 10, []impl.Source{hard(late(100)), hard(size(10))}},
		{"the least one first", 0x1p24, 0x1p24, []impl.Source{soft(size(1)), soft(size(1))}},
		{"a greater one first", 0x1p24, 0x1p24 + 4, []impl.Source{soft(size(3)), soft(size(1))}},
		{"a greater one last", 0x1p24, 0x1p24 + 4, []impl.Source{soft(size(1)), soft(size(3))}},
		{"what is lost first", 1, 0, []impl.Source{soft(size(0x1p30)), soft(size(-0x1p30))}},
		{"what is lost last", 0x1p30, 1, []impl.Source{soft(size(-0x1p30)), soft(size(1))}},
		{"too great first", math.MaxFloat32, infinity, []impl.Source{soft(size(math.MaxFloat32)), soft(size(-math.MaxFloat32))}},
		{"too great last", math.MaxFloat32, math.MaxFloat32, []impl.Source{soft(size(-math.MaxFloat32)), soft(size(math.MaxFloat32))}},
		{"infinities", infinity, notANumber, []impl.Source{soft(size(-infinity)), soft(size(1))}},
		{"a not-a-number that is lost", notANumber, 2, []impl.Source{soft(size(notANumber)), hard(size(1)), soft(size(1))}},
		{"a not-a-number that is put", 1, notANumber, []impl.Source{hard(size(notANumber)), soft(size(1))}},
	} {
		isNumber(t, c.what, fedMiddle(t, c.e, 0, c.sources...), c.want)
	}
}

func TestSourcesInTwoCells(t *testing.T) {
	for _, wrap := range []bool{false, true} {
		c := plainScene(4, 4, wrap, 0.5, 0).with(map[int]float32{5: 1, 6: 2, 9: 3})
		size := func(x, y int64, hard bool, size float32) impl.Source {
			return impl.Source{X: x, Y: y, Hard: hard, Wave: impl.Wave{Long: 1, Size: size}}
		}
		sources := []impl.Source{size(1, 1, false, 10), size(2, 1, true, 20), size(1, 2, false, 30), size(1, 1, false, 40), size(2, 1, false, 50), size(1, 2, true, 60)}
		got, ok := impl.FeedField(c.s, c.f, sources, 0)
		isField(t, "FeedField", got, ok, c.with(map[int]float32{5: 51, 6: 70, 9: 60}).f)
	}
}

func TestFeedingOfAllShapes(t *testing.T) {
	source := numbers{120}
	eachScene(121, special, func(c scene) {
		sources := anySources(&source, c.s, int(below(&source, maxSources+1)), 0)
		for i := range sources {
			if i > 0 && below(&source, 2) == 0 {
				sources[i].X, sources[i].Y = sources[i-1].X, sources[i-1].Y
			}
			if below(&source, 4) == 0 {
				sources[i].Wave = farWave(&source, sources[i].Wave.Kind)
			}
		}
		for _, step := range []int64{0, below(&source, 60), below(&source, 60), below(&source, maxTicks), maxTicks} {
			got, ok := impl.FeedField(c.s, c.f, sources, step)
			isField(t, fmt.Sprint("FeedField ", c.s.Wide, c.s.High, c.s.Wrap, step), got, ok, c.fed(sources, step).f)
			is(t, "what is fed is a field", impl.IsField(c.s, got), true)
		}
	})
}

func TestFeedingAtNoStep(t *testing.T) {
	c := plainScene(3, 3, true, 0.5, 0)
	for _, sources := range [][]impl.Source{nil, {sourceAt(1, 1, aPulse)}} {
		for _, step := range noSteps {
			f, ok := impl.FeedField(c.s, c.f, sources, step)
			isNoField(t, fmt.Sprint("FeedField at ", step), f, ok)
		}
		for _, step := range []int64{0, maxTicks} {
			f, ok := impl.FeedField(c.s, c.f, sources, step)
			isField(t, fmt.Sprint("FeedField at ", step), f, ok, c.fed(sources, step).f)
		}
	}
}

func TestProbesReadTheirCells(t *testing.T) {
	source := numbers{122}
	eachScene(123, special, func(c scene) {
		for _, count := range []int{0, 1, int(below(&source, maxProbes)), maxProbes} {
			probes := anyProbes(&source, c.s, count)
			if count > 2 {
				probes[2] = probes[0]
			}
			got, ok := impl.ReadProbes(c.s, c.f, probes)
			isList(t, fmt.Sprint("ReadProbes ", probes), got, ok, c.read(probes)...)
		}
	})
	c := plainScene(4, 3, false, 0.5, 0).with(map[int]float32{0: negativeZero, 5: 1, 6: notANumber})
	got, ok := impl.ReadProbes(c.s, c.f, []impl.Probe{{X: 2, Y: 1}, {X: 1, Y: 1}, {}, {X: 1, Y: 1}, {X: 3, Y: 2}})
	isList(t, "ReadProbes", got, ok, notANumber, 1, negativeZero, 1, 0)
}

func isRing(t *testing.T, s impl.Sheet, x, y, far int64, want ...impl.Probe) {
	t.Helper()
	got, ok := impl.RingAround(s, x, y, far)
	what := fmt.Sprint("RingAround ", s.Wide, s.High, s.Wrap, " at ", x, y, " far ", far)
	if !ok || !slices.Equal(got, want) {
		t.Errorf("%s: got %v %v, want %v", what, got, ok, want)
	}
	is(t, what+" are probes", impl.AreProbes(s, got), true)
}

func isNoRing(t *testing.T, s impl.Sheet, x, y, far int64) {
	t.Helper()
	got, ok := impl.RingAround(s, x, y, far)
	what := fmt.Sprint("RingAround ", s.Wide, s.High, s.Wrap, " at ", x, y, " far ", far)
	is(t, what, fmt.Sprint(len(got), ok), "0 false")
}

func TestRings(t *testing.T) {
	p := func(x, y int64) impl.Probe { return impl.Probe{X: x, Y: y} }
	for _, wrap := range []bool{false, true} {
		s := blankSheet(3, 3, wrap)
		isRing(t, s, 1, 1, 1, p(0, 0), p(1, 0), p(2, 0), p(0, 1), p(2, 1), p(0, 2), p(1, 2), p(2, 2))
		isRing(t, s, 0, 0, 1, p(1, 0), p(0, 1), p(1, 1))
		isRing(t, s, 2, 1, 1, p(1, 0), p(2, 0), p(1, 1), p(1, 2), p(2, 2))
		isRing(t, s, 0, 0, 2, p(2, 0), p(2, 1), p(0, 2), p(1, 2), p(2, 2))
		isRing(t, s, 1, 2, 2, p(0, 0), p(1, 0), p(2, 0))
		isRing(t, s, 1, 1, 2)
		isRing(t, s, 0, 0, 3)
		isRing(t, s, 2, 2, maxSide)
		s = blankSheet(16, 16, wrap)
		isRing(t, s, 0, 0, 3, p(3, 0), p(3, 1), p(3, 2), p(0, 3), p(1, 3), p(2, 3), p(3, 3))
		isNoRing(t, s, 0, 0, 4)
		isNoRing(t, s, 8, 8, 2)
		isNoRing(t, s, 0, 0, 15)
		isRing(t, s, 15, 15, maxSide)
		isRing(t, s, 8, 15, 1, p(7, 14), p(8, 14), p(9, 14), p(7, 15), p(9, 15))
		isNoRing(t, s, 8, 15, 2)
		isRing(t, s, 1, 15, 3, p(0, 12), p(1, 12), p(2, 12), p(3, 12), p(4, 12), p(4, 13), p(4, 14), p(4, 15))
		isNoRing(t, s, 2, 15, 3)
		s = blankSheet(5, 3, wrap)
		isRing(t, s, 2, 1, 2, p(0, 0), p(4, 0), p(0, 1), p(4, 1), p(0, 2), p(4, 2))
		isRing(t, s, 4, 0, 2, p(2, 0), p(2, 1), p(2, 2), p(3, 2), p(4, 2))
		s = blankSheet(16, 3, wrap)
		isRing(t, s, 0, 1, 15, p(15, 0), p(15, 1), p(15, 2))
		isNoRing(t, s, 3, 0, 2)
		isRing(t, s, 3, 1, 2, p(1, 0), p(5, 0), p(1, 1), p(5, 1), p(1, 2), p(5, 2))
	}
}

// ringOf returns the cells of a ring, row by row, of which there can be any number.
func ringOf(s impl.Sheet, x, y, far int64) []impl.Probe {
	var all []impl.Probe
	for py := y - far; py <= y+far; py++ {
		for px := x - far; px <= x+far; px++ {
			isIn := px >= 0 && px < s.Wide && py >= 0 && py < s.High
			if isIn && (px == x-far || px == x+far || py == y-far || py == y+far) {
				all = append(all, impl.Probe{X: px, Y: py})
			}
		}
	}
	return all
}

func TestRingsOfAllShapes(t *testing.T) {
	sizes := map[int]int{}
	eachShape(func(wide, high int64, wrap bool) {
		if wide > 9 && wide < 14 || high > 9 && high < 14 {
			return
		}
		s := blankSheet(wide, high, wrap)
		eachCell(s, func(x, y int64) {
			for far := int64(1); far <= maxSide; far++ {
				want := ringOf(s, x, y, far)
				sizes[len(want)]++
				if len(want) > maxProbes {
					isNoRing(t, s, x, y, far)
				} else {
					isRing(t, s, x, y, far, want...)
				}
			}
		})
	})
	is(t, "rings of no cell, and of as many as can be, and of one more", sizes[0] > 0 && sizes[maxProbes] > 0 && sizes[maxProbes+1] > 0, true)
}

func TestRingsThatAreRefused(t *testing.T) {
	for _, wrap := range []bool{false, true} {
		s := blankSheet(4, 5, wrap)
		for _, far := range []int64{0, -1, -2, maxSide + 1, maxSide + 2, 1 << 32, 1<<32 + 1, math.MaxInt64, math.MinInt64} {
			isNoRing(t, s, 1, 1, far)
			isNoRing(t, s, 0, 0, far)
		}
		for _, at := range someOutside {
			for _, far := range []int64{1, 2, 5, maxSide} {
				isNoRing(t, s, at[0], at[1], far)
			}
		}
		for _, bad := range badSheets(wrap) {
			isNoRing(t, bad, 1, 1, 1)
			isNoRing(t, bad, 0, 0, maxSide)
		}
	}
}

// isArrival calls ArrivalOf, where -1 tells that it fails.
func isArrival(t *testing.T, record []float32, level float32, want int64) {
	t.Helper()
	got, ok := impl.ArrivalOf(record, level)
	is(t, fmt.Sprint("ArrivalOf ", record, " with ", level), told(got, ok), told(max(want, 0), want >= 0))
}

func TestArrivals(t *testing.T) {
	inf, nan, z := infinity, notANumber, negativeZero
	for _, c := range []struct {
		record []float32
		least  float32
		want   int64
	}{
		{nil, 1, -1}, {[]float32{}, least, -1},
		{[]float32{1}, 1, 0}, {[]float32{-1}, 1, 0}, {[]float32{numberOf(0x3f7fffff)}, 1, -1}, {[]float32{numberOf(0xbf7fffff)}, 1, -1},
		{[]float32{0, 0.25, -2}, 0.5, 2}, {[]float32{0, 0.5, -2}, 0.5, 1}, {[]float32{0, -0.5, 2}, 0.5, 1}, {[]float32{-3, 4}, 4, 1},
		{[]float32{0, z, 0}, least, -1}, {[]float32{0, z, -least, least}, least, 2}, {[]float32{0, least, 2 * least}, 2 * least, 2},
		{[]float32{nan, nan}, least, -1}, {[]float32{nan, 1, 2}, 1, 1}, {[]float32{nan, 0.5, nan, -1}, 1, 3},
		{[]float32{1, inf}, math.MaxFloat32, 1}, {[]float32{1, -inf}, math.MaxFloat32, 1}, {[]float32{math.MaxFloat32}, math.MaxFloat32, 0},
		{[]float32{-math.MaxFloat32, inf}, math.MaxFloat32, 0}, {[]float32{3, 2, 1}, 1, 0}, {[]float32{3, 2, 1}, 4, -1},
		{[]float32{0.1}, 0.1, 0}, {[]float32{-0.1}, 0.1, 0}, {[]float32{0x1p24}, 0x1p24 + 2, -1}, {[]float32{0x1p-140}, 0x1p-140, 0},
	} {
		isArrival(t, c.record, c.least, c.want)
	}
}

func TestArrivalsInLongRecords(t *testing.T) {
	for at := range maxRecord {
		record := make([]float32, maxRecord)
		record[at] = -1
		isArrival(t, record, 1, int64(at))
		isArrival(t, record, 2, -1)
		isArrival(t, record[:at], 1, -1)
		isArrival(t, record[:at+1], 1, int64(at))
	}
	for _, count := range []int{maxRecord + 1, maxRecord + 2, 128, 1000} {
		isArrival(t, repeated[float32](1, count), 1, -1)
	}
	isArrival(t, repeated[float32](1, maxRecord), 1, 0)
}

func TestLevelsThatAreRefused(t *testing.T) {
	for _, level := range append([]float32{0, negativeZero, -1, -least, -math.MaxFloat32, infinity, -infinity}, someNotANumbers...) {
		for _, record := range [][]float32{nil, {0}, {1}, {-1}, {infinity}, {-infinity, 1}, {notANumber}, {0, negativeZero, 5}} {
			isArrival(t, record, level, -1)
		}
	}
}
