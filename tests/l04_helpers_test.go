package tests

import (
	"fmt"
	"testing"

	"loop.example/g01201/impl"
)

const (
	maxSources = 8
	maxProbes  = 8
	maxRecord  = 64
	maxTicks   = 1000000
	seeds      = 1 << 31
)

// someWaveKinds are all five kinds.
var someWaveKinds = []int64{impl.WavePulse, impl.WaveTone, impl.WaveBurst, impl.WaveRamp, impl.WaveNoise}

// below returns a number from 0 to less than n.
func below(source *numbers, n int64) int64 { return int64(source.next()>>33) % n }

// anyWave returns a wave that begins and ends soon.
func anyWave(source *numbers, kind int64) impl.Wave {
	return impl.Wave{
		Kind: kind, At: below(source, 40), Long: 1 + below(source, 40),
		Turns: near(source) * 4, Size: near(source) * 8, Seed: below(source, seeds),
	}
}

// farWave returns a wave of any times, turns and sizes.
func farWave(source *numbers, kind int64) impl.Wave {
	w := impl.Wave{
		Kind: kind, At: below(source, maxTicks+1), Long: 1 + below(source, maxTicks),
		Turns: source.number(), Size: special(source), Seed: below(source, seeds),
	}
	if !(w.Turns-w.Turns == 0) {
		w.Turns = 0
	}
	return w
}

// noiseOf returns the number of a seed and a step, from 0 to 32767. A number of
// 32 bits that is too great loses a multiple of what is divided by.
func noiseOf(seed, step int64) uint32 {
	n := uint32(seed) + 40503*uint32(step)
	for range 2 {
		n = n*1103515245 + 12345
	}
	return n << 1 >> 17
}

// valueOf tells the value of a wave as the document does.
func valueOf(w impl.Wave, step int64) float32 {
	t := step - w.At
	ends := w.Kind != impl.WaveTone && w.Kind != impl.WaveRamp
	if t < 0 || ends && t >= w.Long {
		return 0
	}
	tone := float32(w.Size * impl.SineTurns(float32(float64(t)*float64(w.Turns))))
	switch w.Kind {
	case impl.WaveTone:
		return tone
	case impl.WaveBurst:
		cosine := impl.SineTurns(0.25 + float32(t)/float32(w.Long))
		return float32(tone * (0.5 - cosine/2))
	case impl.WaveRamp:
		if t < w.Long {
			return w.Size * (float32(t+1) / float32(w.Long))
		}
	case impl.WaveNoise:
		return w.Size * ((float32(noiseOf(w.Seed, step)) - 16384) / 16384)
	}
	return w.Size
}

// anySources returns sources with waves of all kinds that begin soon behind a step.
func anySources(source *numbers, s impl.Sheet, count int, from int64) []impl.Source {
	var all []impl.Source
	for i := range count {
		x, y := anyFree(source, s)
		hard := below(source, 2) == 0
		w := anyWave(source, someWaveKinds[i%len(someWaveKinds)])
		w.At += from
		all = append(all, impl.Source{X: x, Y: y, Hard: hard, Wave: w})
	}
	return all
}

// anyFree returns a cell that is not in the border.
func anyFree(source *numbers, s impl.Sheet) (x, y int64) {
	if s.Wrap {
		return below(source, s.Wide), below(source, s.High)
	}
	return 1 + below(source, s.Wide-2), 1 + below(source, s.High-2)
}

func anyProbes(source *numbers, s impl.Sheet, count int) []impl.Probe {
	var all []impl.Probe
	for range count {
		all = append(all, impl.Probe{X: below(source, s.Wide), Y: below(source, s.High)})
	}
	return all
}

// fed feeds a scene as the document tells.
func (c scene) fed(sources []impl.Source, step int64) scene {
	f := copyField(c.f)
	for _, source := range sources {
		e := atCell(f.E, c.s.Wide, c.s.High, source.X, source.Y)
		if value := valueOf(source.Wave, step); source.Hard {
			*e = value
		} else {
			*e += value
		}
	}
	return scene{c.s, f}
}

func (c scene) read(probes []impl.Probe) []float32 {
	var read []float32
	for _, probe := range probes {
		read = append(read, c.f.E[probe.X+c.s.Wide*probe.Y])
	}
	return read
}

// recording is what comes of a run: the records of the probes, and the last field.
type recording struct {
	records [][]float32
	f       impl.Field
}

// played makes a run as the document tells.
func (c scene) played(sources []impl.Source, probes []impl.Probe, from, count int64) recording {
	records := make([][]float32, len(probes))
	for i := range count {
		c = c.stepped().fed(sources, from+i)
		for k, x := range c.read(probes) {
			records[k] = append(records[k], x)
		}
	}
	return recording{records, c.f}
}

func (r recording) told() string { return told(r.records, r.f) }

// play requires that a run succeeds.
func (c scene) play(t *testing.T, sources []impl.Source, probes []impl.Probe, from, count int64) recording {
	t.Helper()
	records, f, ok := impl.RunSources(c.s, c.f, sources, probes, from, count)
	is(t, fmt.Sprint("RunSources from ", from, " for ", count, " succeeds"), ok, true)
	return recording{records, f}
}

// followedBy returns what comes of a run and the run that goes on behind it.
func (r recording) followedBy(next recording) recording {
	all := recording{make([][]float32, len(r.records)), next.f}
	for k := range r.records {
		all.records[k] = append(append(all.records[k], r.records[k]...), next.records[k]...)
	}
	return all
}

func isRecording(t *testing.T, what string, got, want recording) {
	t.Helper()
	is(t, what+": how many records", len(got.records), len(want.records))
	if got.told() != want.told() {
		t.Errorf("%s: got %v, want %v", what, got, want)
	}
}

// isNoRecording checks that a run fails with zero values.
func isNoRecording(t *testing.T, what string, c scene, sources []impl.Source, probes []impl.Probe, from, count int64) {
	t.Helper()
	records, f, ok := impl.RunSources(c.s, c.f, sources, probes, from, count)
	is(t, "RunSources "+what, fmt.Sprint(len(records), told(f), ok), fmt.Sprint(0, told(impl.Field{}), false))
}

func isWave(t *testing.T, what string, w impl.Wave, step int64, want float32) {
	t.Helper()
	got, ok := impl.WaveAt(w, step)
	is(t, fmt.Sprint("WaveAt of ", what, " ", w, " at ", step), told(got, ok), told(want, true))
}

func isNoWave(t *testing.T, w impl.Wave, step int64) {
	t.Helper()
	got, ok := impl.WaveAt(w, step)
	is(t, fmt.Sprint("WaveAt of ", w, " at ", step), told(got, ok), told(float32(0), false))
}

// isWaveList checks WaveList, and WaveAt for each of its steps.
func isWaveList(t *testing.T, what string, w impl.Wave, from int64, want ...float32) {
	t.Helper()
	list, ok := impl.WaveList(w, from, int64(len(want)))
	isList(t, fmt.Sprint("WaveList of ", what, " ", w, " from ", from), list, ok, want...)
	for i, x := range want {
		isWave(t, what, w, from+int64(i), x)
	}
}

// badWaves are waves that are not valid, each for one reason.
func badWaves() []impl.Wave {
	var all []impl.Wave
	with := func(change func(w *impl.Wave)) {
		w := impl.Wave{Kind: impl.WaveTone, At: 3, Long: 5, Turns: 0.25, Size: 1, Seed: 7}
		change(&w)
		all = append(all, w)
	}
	for _, n := range []int64{-1, 5, 6, 256, 1 << 32, 1<<32 + 1, -1 << 63, 1<<63 - 1} {
		with(func(w *impl.Wave) { w.Kind = n })
	}
	for _, n := range []int64{-1, maxTicks + 1, 1 << 32, -1 << 63, 1<<63 - 1} {
		with(func(w *impl.Wave) { w.At = n })
		with(func(w *impl.Wave) { w.Long = n })
	}
	with(func(w *impl.Wave) { w.Long = 0 })
	for _, x := range append([]float32{infinity, -infinity}, someNotANumbers...) {
		with(func(w *impl.Wave) { w.Turns = x })
	}
	for _, n := range []int64{-1, seeds, seeds + 1, 1 << 32, -1 << 63, 1<<63 - 1} {
		with(func(w *impl.Wave) { w.Seed = n })
	}
	return all
}
