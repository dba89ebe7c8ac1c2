package tests

import (
	"fmt"
	"math"
	"slices"
	"testing"

	"loop.example/g01201/impl"
)

func TestRunsWithSourcesThatAreCutAnywhere(t *testing.T) {
	source := numbers{140}
	for n := range 12 {
		c := anyScene(&source, 3+int64(n), 3+int64(n*5%7), n%2 == 0, near)
		from := picked(&source, []int64{0, 1, 500, maxTicks + 1 - maxRecord})
		sources, probes := anySources(&source, c.s, 5+n%4, from), anyProbes(&source, c.s, maxProbes)
		whole := c.play(t, sources, probes, from, maxRecord)
		for cut := range int64(maxRecord) {
			first := c.play(t, sources, probes, from, cut)
			second := scene{c.s, first.f}.play(t, sources, probes, from+cut, maxRecord-cut)
			isRecording(t, fmt.Sprint("a run that is cut at ", cut), first.followedBy(second), whole)
		}
	}
}

func TestRunsThatAreCutIntoSteps(t *testing.T) {
	source := numbers{141}
	for _, wrap := range []bool{false, true} {
		for _, number := range someKinds {
			c := anyScene(&source, 5, 6, wrap, number)
			sources, probes := anySources(&source, c.s, maxSources, 9), anyProbes(&source, c.s, maxProbes)
			whole := c.play(t, sources, probes, 9, maxRecord)
			parts := c.play(t, sources, probes, 9, 0)
			for i := range int64(maxRecord) {
				parts = parts.followedBy(scene{c.s, parts.f}.play(t, sources, probes, 9+i, 1))
			}
			isRecording(t, "a run that is cut into steps", parts, whole)
		}
	}
}

// Records longer than one run can make are those of runs that go on.
func TestLongRunsThatAreCutElsewhere(t *testing.T) {
	source := numbers{142}
	for _, wrap := range []bool{false, true} {
		c := anyScene(&source, 7, 5, wrap, near)
		sources, probes := anySources(&source, c.s, maxSources, 40), anyProbes(&source, c.s, 3)
		inParts := func(parts ...int64) recording {
			all := recording{make([][]float32, 3), c.f}
			from := int64(0)
			for _, count := range parts {
				all = all.followedBy(scene{c.s, all.f}.play(t, sources, probes, from, count))
				from += count
			}
			return all
		}
		isRecording(t, "two cuts", inParts(63, 1, 64), inParts(64, 64))
		isRecording(t, "many cuts", inParts(1, 20, 0, 19, 41, 2, 45), inParts(64, 64))
	}
}

func TestWaveListsThatAreCutAnywhere(t *testing.T) {
	source := numbers{143}
	for n := range int64(50) {
		w := anyWave(&source, n%5)
		from := below(&source, 30)
		whole, ok := impl.WaveList(w, from, maxRecord)
		is(t, "WaveList succeeds", ok, true)
		for cut := range int64(maxRecord + 1) {
			first, ok := impl.WaveList(w, from, cut)
			is(t, "WaveList of the first part succeeds", ok, true)
			second, ok := impl.WaveList(w, from+cut, maxRecord-cut)
			isList(t, fmt.Sprint("WaveList cut at ", cut), append(first, second...), ok, whole...)
		}
	}
}

func TestNoiseIsTheSameHoweverRunsBegin(t *testing.T) {
	for _, wrap := range []bool{false, true} {
		c := plainScene(5, 5, wrap, 0.25, 0.5)
		w := impl.Wave{Kind: impl.WaveNoise, Long: maxTicks, Size: 1, Seed: 4711}
		sources := []impl.Source{{X: 2, Y: 2, Hard: true, Wave: w}}
		probes := []impl.Probe{{X: 2, Y: 2}}
		whole, ok := impl.WaveList(w, 0, maxRecord)
		is(t, "WaveList succeeds", ok, true)
		for from := range int64(maxRecord + 1) {
			got := c.play(t, sources, probes, from, maxRecord-from)
			isList(t, fmt.Sprint("noise from ", from), got.records[0], true, whole[from:]...)
		}
	}
}

// probesOf returns probes of all cells, as many at once as there can be.
func probesOf(s impl.Sheet) [][]impl.Probe {
	var all []impl.Probe
	eachCell(s, func(x, y int64) { all = append(all, impl.Probe{X: x, Y: y}) })
	return slices.Collect(slices.Chunk(all, maxProbes))
}

func TestNothingArrivesBeforeItCan(t *testing.T) {
	source := numbers{144}
	sizes := []float32{1, -8, least, math.MaxFloat32, -infinity, notANumber}
	eachShape(func(wide, high int64, wrap bool) {
		if (wide+high)%4 != 0 {
			return
		}
		c := scene{s: anySheet(&source, wide, high, wrap)}
		c.f = blankField(c.s)
		x, y := anyFree(&source, c.s)
		w := anyWave(&source, below(&source, 5))
		w.Size = picked(&source, sizes)
		from := below(&source, 30)
		sources := []impl.Source{{X: x, Y: y, Hard: below(&source, 2) == 0, Wave: w}}
		for _, probes := range probesOf(c.s) {
			got := c.play(t, sources, probes, from, maxRecord)
			for k, probe := range probes {
				way := wayOf(c.s, x+wide*y, probe.X+wide*probe.Y)
				first := max(from, w.At) + way - from
				for i, value := range got.records[k][:min(first, maxRecord)] {
					is(t, fmt.Sprint("nothing is there behind ", i, " with the way ", way), value == 0, true)
				}
				at, ok := impl.ArrivalOf(got.records[k], least)
				is(t, "nothing arrives before it can", !ok || at >= first, true)
			}
		}
	})
}

func TestPulsesArriveWhenTheyCan(t *testing.T) {
	for _, wrap := range []bool{false, true} {
		for _, hard := range []bool{false, true} {
			c := plainScene(16, 16, wrap, 0.5, 0)
			for _, kind := range []int64{impl.WavePulse, impl.WaveRamp, impl.WaveNoise} {
				w := impl.Wave{Kind: kind, At: 5, Long: 1, Size: -1}
				sources := []impl.Source{{X: 8, Y: 8, Hard: hard, Wave: w}}
				probes := []impl.Probe{{X: 8, Y: 8}, {X: 9, Y: 8}, {X: 8, Y: 6}, {X: 8, Y: 11}, {X: 4, Y: 8}, {X: 8, Y: 3}, {X: 2, Y: 8}, {X: 8, Y: 15}}
				got := c.play(t, sources, probes, 2, 20)
				for k, way := range []int64{0, 1, 2, 3, 4, 5, 6, 7} {
					at, ok := impl.ArrivalOf(got.records[k], least)
					if probes[k].Y == 15 && !wrap {
						is(t, "what arrives in the border", told(at, ok), told(int64(0), false))
						continue
					}
					is(t, fmt.Sprint("what arrives on the way ", way), told(at, ok), told(3+way, true))
				}
			}
		}
	}
}

// toldNumbers tells numbers, but not the signs of zeros.
func toldNumbers(list []float32) string {
	unsigned := slices.Clone(list)
	for i, x := range unsigned {
		if x == 0 {
			unsigned[i] = 0
		}
	}
	return told(unsigned)
}

// Before a wave can arrive, a record is what it would be without the source. A
// source that is silent adds +0, so this is true but for the signs of zeros.
func TestRecordsBeforeAWaveArrives(t *testing.T) {
	source := numbers{145}
	for n := range 60 {
		c := anyScene(&source, 3+int64(n%12), 3+int64(n%9), n%2 == 0, near)
		others := anySources(&source, c.s, 4, 0)
		x, y := anyFree(&source, c.s)
		w := anyWave(&source, int64(n%5))
		w.At += 10
		with := append(slices.Clone(others), sourceAt(x, y, w))
		for _, probes := range probesOf(c.s) {
			without := c.play(t, others, probes, 3, 30)
			got := c.play(t, with, probes, 3, 30)
			for k, probe := range probes {
				first := min(30, w.At-3+wayOf(c.s, x+c.s.Wide*y, probe.X+c.s.Wide*probe.Y))
				is(t, fmt.Sprint("before ", first, " at ", probe), toldNumbers(got.records[k][:first]), toldNumbers(without.records[k][:first]))
			}
		}
	}
}

func TestRunsWithLaterWavesAreLater(t *testing.T) {
	source := numbers{146}
	for n := range 40 {
		c := anyScene(&source, 3+int64(n%6), 3+int64(n%5), n%2 == 0, near)
		sources, probes := anySources(&source, c.s, 4, 0), anyProbes(&source, c.s, 5)
		by := below(&source, 1000)
		later := slices.Clone(sources)
		for i := range later {
			w, ok := impl.LaterWave(sources[i].Wave, by)
			is(t, "LaterWave succeeds", ok, true)
			later[i].Wave = w
		}
		isRecording(t, fmt.Sprint("a run that is later by ", by), c.play(t, later, probes, 7+by, 50), c.play(t, sources, probes, 7, 50))
	}
}

func TestRunsOfShiftedSheets(t *testing.T) {
	source := numbers{147}
	for n := range 40 {
		c := anyScene(&source, 3+int64(n%8), 3+int64(n%7), true, near)
		sources, probes := anySources(&source, c.s, maxSources, 0), anyProbes(&source, c.s, 5)
		x, y := below(&source, maxSide), below(&source, maxSide)
		moved, seen := slices.Clone(sources), slices.Clone(probes)
		for i, s := range sources {
			moved[i].X, moved[i].Y = (s.X+x)%c.s.Wide, (s.Y+y)%c.s.High
		}
		for i, p := range probes {
			seen[i] = impl.Probe{X: (p.X + x) % c.s.Wide, Y: (p.Y + y) % c.s.High}
		}
		want := c.play(t, sources, probes, 0, 40)
		got := c.shifted(t, x, y).play(t, moved, seen, 0, 40)
		is(t, "the records of a shifted run", told(got.records), told(want.records))
		is(t, "the field of a shifted run", told(got.f), told(scene{c.s, want.f}.shifted(t, x, y).f))
	}
}

// sourceInputs are arguments for all functions of chapter 4.
type sourceInputs struct {
	sheetInputs
	w                        impl.Wave
	sources                  []impl.Source
	probes                   []impl.Probe
	step, from, count, by, n int64
	record                   []float32
	level                    float32
}

// sourceInputsAt are valid in one of two cases, but for what is told of a ring.
func sourceInputsAt(n int) sourceInputs {
	in := sourceInputs{sheetInputs: sheetInputsAt(n)}
	source := numbers{uint64(n) + 1<<41}
	if n%2 == 0 {
		in.x, in.y = below(&source, in.s.Wide), below(&source, in.s.High)
	}
	whole := copySheet(in.s)
	if !impl.ValidSheet(whole) {
		whole = blankSheet(3, 4, in.s.Wrap)
	}
	in.from, in.count = below(&source, 50), below(&source, 12)
	in.w, in.step = farWave(&source, below(&source, 5)), below(&source, maxTicks+1)
	in.sources = anySources(&source, whole, int(below(&source, 9)), in.from)
	in.probes = anyProbes(&source, whole, int(below(&source, 9)))
	in.by, in.n = below(&source, maxTicks)-in.w.At, below(&source, seeds)
	for range below(&source, maxRecord+1) {
		in.record = append(in.record, special(&source))
	}
	in.level = picked(&source, []float32{1, least, math.MaxFloat32, 0x1p20})
	if n%2 == 0 {
		return in
	}
	bad := badWaves()
	for _, change := range []func(){
		func() { in.w = picked(&source, bad) },
		func() { in.w.At, in.w.Long, in.w.Kind = wild(&source), wild(&source), wild(&source) },
		func() { in.step, in.from = wild(&source), wild(&source) },
		func() { in.count, in.by, in.n = wild(&source), wild(&source), wild(&source) },
		func() { in.sources = append(in.sources, in.sources...) },
		func() { in.sources = append(in.sources, sourceAt(wild(&source), wild(&source), in.w)) },
		func() { in.sources = append(in.sources, sourceAt(1, 1, picked(&source, bad))) },
		func() { in.probes = append(in.probes, impl.Probe{X: wild(&source), Y: wild(&source)}) },
		func() { in.probes = append(in.probes, in.probes...) },
		func() { in.record = append(in.record, in.record...) },
		func() { in.level = special(&source) },
	} {
		if source.next()>>62 == 0 {
			change()
		}
	}
	return in
}

// wild returns any integer, often one at a limit.
func wild(source *numbers) int64 {
	return picked(source, []int64{
		0, 1, 2, 5, -1, -2, 17, maxRecord, maxRecord + 1, maxTicks, maxTicks + 1, -maxTicks, seeds, seeds - 1,
		1 << 32, math.MaxInt64, math.MinInt64, int64(source.next()),
	})
}

func outcomesOfSources(in sourceInputs) []outcome {
	var all []outcome
	collect[float32](&all, "WaveAt")(impl.WaveAt(in.w, in.step))
	collect[[]float32](&all, "WaveList")(impl.WaveList(in.w, in.from, in.count))
	collect[impl.Wave](&all, "LaterWave")(impl.LaterWave(in.w, in.by))
	collect[int64](&all, "NextSeed")(impl.NextSeed(in.n))
	collect[impl.Field](&all, "FeedField")(impl.FeedField(in.s, in.f, in.sources, in.from))
	collect[[]float32](&all, "ReadProbes")(impl.ReadProbes(in.s, in.f, in.probes))
	collect[[]impl.Probe](&all, "RingAround")(impl.RingAround(in.s, in.x, in.y, 1+in.from%4))
	collect[int64](&all, "ArrivalOf")(impl.ArrivalOf(in.record, in.level))
	records, f, ok := impl.RunSources(in.s, in.f, in.sources, in.probes, in.from, in.count)
	isZero := len(records) == 0 && told(f) == told(impl.Field{})
	all = append(all, outcome{"RunSources", told(records, f, ok), ok, isZero})
	valid := told(impl.ValidWave(in.w), impl.AreSources(in.s, in.sources), impl.AreProbes(in.s, in.probes))
	return append(all, outcome{"reports", valid, true, false})
}

func TestFunctionsOfSourcesReturnForAllArguments(t *testing.T) {
	succeeded, failed := map[string]int{}, map[string]int{}
	for n := range 3000 {
		for _, o := range outcomesOfSources(sourceInputsAt(n)) {
			if o.ok {
				succeeded[o.what]++
				continue
			}
			failed[o.what]++
			is(t, fmt.Sprint(o.what, " of ", n, " fails with zero values"), o.isZero, true)
		}
	}
	is(t, "how many functions succeed", len(succeeded), 10)
	for what, count := range succeeded {
		is(t, what+" succeeds and fails", count > 100 && (failed[what] > 100 || what == "reports"), true)
	}
}

func TestEqualSourcesHaveEqualResults(t *testing.T) {
	for n := range 1000 {
		first := outcomesOfSources(sourceInputsAt(n))
		outcomesOfSources(sourceInputsAt(n + 1))
		if second := outcomesOfSources(sourceInputsAt(n)); !slices.Equal(first, second) {
			t.Fatalf("inputs %d: got %v, then %v", n, first, second)
		}
	}
}

// roomySources puts all lists in arrays that have more on both sides, and
// returns a function that tells these arrays.
func roomySources(in sourceInputs) (sourceInputs, func() string) {
	var numbers [][]float32
	in.sheetInputs, numbers = roomyInputs(in.sheetInputs)
	record, part := roomy(in.record, 11)
	sources, some := roomy(in.sources, sourceAt(11, 12, impl.Wave{Size: 13}))
	probes, few := roomy(in.probes, impl.Probe{X: 11, Y: 12})
	in.record, in.sources, in.probes = part, some, few
	return in, func() string { return toldAll(numbers) + told(record, sources, probes) }
}

func TestSourcesDoNotModifyTheirArguments(t *testing.T) {
	for n := range 600 {
		in, tell := roomySources(sourceInputsAt(n))
		before := tell()
		outcomesOfSources(in)
		if tell() != before {
			t.Fatalf("inputs %d have been modified", n)
		}
	}
}

// madeOfSources returns the lists of numbers of all that is made.
func madeOfSources(t *testing.T, in sourceInputs) map[string][][]float32 {
	all := map[string][][]float32{}
	field := func(what string, f impl.Field) { all[what] = [][]float32{f.E, f.X, f.Y} }
	all["WaveList"] = [][]float32{nil}
	all["WaveList"][0], _ = impl.WaveList(in.w, in.from, 5)
	all["ReadProbes"] = [][]float32{nil}
	all["ReadProbes"][0], _ = impl.ReadProbes(in.s, in.f, in.probes)
	fed, _ := impl.FeedField(in.s, in.f, in.sources, in.from)
	field("FeedField", fed)
	unfed, _ := impl.FeedField(in.s, in.f, nil, in.from)
	field("FeedField without sources", unfed)
	records, f, ok := impl.RunSources(in.s, in.f, in.sources, in.probes, in.from, 5)
	is(t, "RunSources succeeds", ok, true)
	field("RunSources", f)
	all["RunSources"] = append(all["RunSources"], records...)
	_, f, ok = impl.RunSources(in.s, in.f, nil, in.probes, in.from, 0)
	is(t, "RunSources succeeds", ok, true)
	field("RunSources without steps", f)
	return all
}

func TestWhatSourcesReturnOwnsItsMemory(t *testing.T) {
	for _, n := range []int{0, 2} {
		in, tell := roomySources(sourceInputsAt(n))
		in.probes = []impl.Probe{{X: 1, Y: 1}, {X: 0, Y: 1}, {X: 1, Y: 1}}
		in.sources = anySources(&numbers{9}, in.s, 4, 0)
		first := outcomesOfSources(in)
		for what, lists := range madeOfSources(t, in) {
			for i, list := range lists {
				is(t, what+" has numbers", len(list) > 0, true)
				others := append(slices.Clone(lists[:i]), lists[i+1:]...)
				before := tell() + toldAll(others)
				room := list[:cap(list)]
				for k := range room {
					room[k] = 12345
				}
				is(t, fmt.Sprint("list ", i, " of ", what, " has its own memory"), tell()+toldAll(others) == before, true)
			}
		}
		is(t, "later results", slices.Equal(outcomesOfSources(in), first), true)
	}
}

func TestRecordsAndRingsOwnTheirMemory(t *testing.T) {
	c := plainScene(4, 5, true, 0.5, 0)
	ring := func() []impl.Probe {
		all, ok := impl.RingAround(c.s, 1, 1, 1)
		is(t, "RingAround succeeds", ok, true)
		return all
	}
	records := func() [][]float32 { return c.play(t, nil, ring(), 0, 3).records }
	first, lists := ring(), records()
	for i := range first[:cap(first)] {
		first[:cap(first)][i] = impl.Probe{X: 12, Y: 12}
	}
	for i := range lists[:cap(lists)] {
		lists[:cap(lists)][i] = nil
	}
	is(t, "RingAround", fmt.Sprint(ring()), fmt.Sprint(ringOf(c.s, 1, 1, 1)))
	is(t, "the records", told(records()), told(slices.Repeat([][]float32{{0, 0, 0}}, 8)))
}

func TestNilIsAnEmptyListOfSources(t *testing.T) {
	c := plainScene(3, 4, true, 0.5, 0)
	none := sourceInputs{sheetInputs: sheetInputs{s: c.s, f: c.f, g: c.f, other: c.s}, w: aPulse, from: 1, count: 2, level: 1}
	empty := none
	empty.sources, empty.probes, empty.record = []impl.Source{}, []impl.Probe{}, []float32{}
	is(t, "lists of no sources", slices.Equal(outcomesOfSources(none), outcomesOfSources(empty)), true)
}
