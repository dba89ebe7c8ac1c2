package tests

import (
	"fmt"
	"math"
	"testing"

	"loop.example/g01201/impl"
)

// The middle of the smallest sheet swings: 2, 0, -2, -2, 0, 2 and so on.
func TestTracesOfTheExample(t *testing.T) {
	c := plainScene(3, 3, false, 0.5, 0).with(map[int]float32{4: 2})
	list, ok := impl.TraceOf(c.s, c.f, 1, 1, 7)
	isList(t, "TraceOf the middle", list, ok, 0, -2, -2, 0, 2, 2, 0)
	list, ok = impl.TraceOf(c.s, c.f, 2, 1, 3)
	isList(t, "TraceOf the border", list, ok, 0, 0, 0)
	list, ok = impl.EnergyTrace(c.s, c.f, 4)
	isList(t, "EnergyTrace", list, ok, 4, 8, 4, 4)
	list, ok = impl.PeakTrace(c.s, c.f, 5)
	isList(t, "PeakTrace", list, ok, 0, 2, 2, 0, 2)
	list, ok = impl.SumOfSteps(c.s, c.f, 3)
	isList(t, "SumOfSteps", list, ok, 0, 0, 0, 0, -4, 0, 0, 0, 0)
	for level, want := range map[float32]int64{3: 0, 2: 1, 1: 1, least: 1} {
		n, ok := impl.QuietAfter(c.s, c.f, level, 4)
		is(t, fmt.Sprint("QuietAfter ", level), told(n, ok), told(want, true))
	}
}

func energyOf(f impl.Field) float32 {
	sum := 0.0
	for _, list := range listsOf(f) {
		for _, x := range list {
			sum += float64(x) * float64(x)
		}
	}
	return float32(sum)
}

// traces are what is measured behind each of some steps.
type traces struct {
	energies, peaks, sums []float32
	cells                 [][]float32
}

func (c scene) traces(steps int64) traces {
	of := traces{sums: make([]float32, len(c.f.E)), cells: make([][]float32, len(c.f.E))}
	for range steps {
		c = c.stepped()
		of.energies, of.peaks = append(of.energies, energyOf(c.f)), append(of.peaks, peakOf(c.f))
		for i, x := range c.f.E {
			of.sums[i] += x
			of.cells[i] = append(of.cells[i], x)
		}
	}
	return of
}

func isTraced(t *testing.T, what string, c scene, steps int64) {
	t.Helper()
	want := c.traces(steps)
	list, ok := impl.EnergyTrace(c.s, c.f, steps)
	isList(t, "EnergyTrace "+what, list, ok, want.energies...)
	list, ok = impl.PeakTrace(c.s, c.f, steps)
	isList(t, "PeakTrace "+what, list, ok, want.peaks...)
	list, ok = impl.SumOfSteps(c.s, c.f, steps)
	isList(t, "SumOfSteps "+what, list, ok, want.sums...)
	for i := range want.cells {
		list, ok = impl.TraceOf(c.s, c.f, int64(i)%c.s.Wide, int64(i)/c.s.Wide, steps)
		isList(t, fmt.Sprint("TraceOf ", i, what), list, ok, want.cells[i]...)
	}
}

func TestTracesOfAllShapes(t *testing.T) {
	for kind, number := range someKinds {
		eachScene(70, number, func(c scene) {
			if c.s.Wide+c.s.High > 9 && c.s.Wide != c.s.High+3 {
				return
			}
			isTraced(t, fmt.Sprint(" ", kind, c.s.Wide, c.s.High, c.s.Wrap), c, 3)
		})
	}
}

func TestTracesOfAllLengths(t *testing.T) {
	source := numbers{71}
	for _, wrap := range []bool{false, true} {
		for _, number := range someKinds {
			c := anyScene(&source, 5, 4, wrap, number)
			for steps := range int64(maxRun + 1) {
				isTraced(t, fmt.Sprint(" ", wrap, steps), c, steps)
			}
		}
	}
}

func TestTracesOfNoSteps(t *testing.T) {
	source := numbers{72}
	c := anyScene(&source, 4, 4, true, special)
	list, ok := impl.TraceOf(c.s, c.f, 3, 3, 0)
	isList(t, "TraceOf", list, ok)
	list, ok = impl.EnergyTrace(c.s, c.f, 0)
	isList(t, "EnergyTrace", list, ok)
	list, ok = impl.PeakTrace(c.s, c.f, 0)
	isList(t, "PeakTrace", list, ok)
	list, ok = impl.SumOfSteps(c.s, c.f, 0)
	isList(t, "SumOfSteps", list, ok, make([]float32, 16)...)
}

func TestTraceOfCellsOutsideTheSheet(t *testing.T) {
	for _, wrap := range []bool{false, true} {
		c := plainScene(4, 5, wrap, 0.5, 0)
		for _, at := range [][2]int64{
			{-1, 0}, {0, -1}, {4, 0}, {0, 5}, {4, 5}, {-4, 2}, {19, 0}, {20, 0}, {5, -1},
			{math.MinInt64, 0}, {0, math.MinInt64}, {math.MaxInt64, 0}, {0, math.MaxInt64}, {0, 1 << 62}, {1 << 62, 3},
		} {
			for _, steps := range []int64{0, 1, maxRun} {
				list, ok := impl.TraceOf(c.s, c.f, at[0], at[1], steps)
				is(t, fmt.Sprint("TraceOf ", at, wrap, steps), fmt.Sprint(len(list), ok), "0 false")
			}
		}
	}
}

func TestPeaksAreAbsoluteValues(t *testing.T) {
	for _, wrap := range []bool{false, true} {
		c := plainScene(3, 4, wrap, 0, 0.5).with(map[int]float32{4: -8, 7: 1})
		list, ok := impl.PeakTrace(c.s, c.f, 4)
		isList(t, "numbers that are made less", list, ok, 4, 2, 1, 0.5)
		c = plainScene(3, 4, wrap, 0, 0).with(map[int]float32{4: -8, 7: 8})
		list, ok = impl.PeakTrace(c.s, c.f, 2)
		isList(t, "equal absolute values", list, ok, 8, 8)
		c = plainScene(3, 4, wrap, negativeZero, 0)
		c.f.E = repeated(negativeZero, 12)
		list, ok = impl.PeakTrace(c.s, c.f, 2)
		isList(t, "zeros with signs", list, ok, 0, 0)
		c = plainScene(3, 4, wrap, 0.5, 0)
		c.f.X[4] = infinity
		list, ok = impl.PeakTrace(c.s, c.f, 1)
		isList(t, "an infinity", list, ok, infinity)
		energies, ok := impl.EnergyTrace(c.s, c.f, 3)
		isList(t, "the energies of an infinity", energies, ok, infinity, notANumber, notANumber)
	}
}

func TestPeaksOfNotANumbers(t *testing.T) {
	for _, x := range someNotANumbers {
		c := plainScene(4, 3, true, 0.25, 0.5)
		c.f.E = repeated(x, 12)
		list, ok := impl.PeakTrace(c.s, c.f, 3)
		isList(t, "all are not-a-numbers", list, ok, 0, 0, 0)
		n, ok := impl.QuietAfter(c.s, c.f, least, 3)
		is(t, "QuietAfter of not-a-numbers", told(n, ok), told(int64(0), true))
		n, ok = impl.QuietAfter(c.s, c.f, 0, 3)
		is(t, "QuietAfter of not-a-numbers with the level 0", told(n, ok), told(int64(0), false))
		c = plainScene(8, 8, true, 0.25, 0.5).with(map[int]float32{0: x, 36: -3})
		c.s.Speeds = make([]float32, 64)
		list, ok = impl.PeakTrace(c.s, c.f, 2)
		isList(t, "one is a not-a-number", list, ok, 1.5, 0.75)
	}
}

func TestSumsOfStepsBeginWithZero(t *testing.T) {
	c := plainScene(4, 4, false, 0, 0)
	c.f.E = repeated(negativeZero, 16)
	for _, steps := range []int64{0, 1, 5} {
		list, ok := impl.SumOfSteps(c.s, c.f, steps)
		isList(t, fmt.Sprint("SumOfSteps ", steps), list, ok, make([]float32, 16)...)
	}
}

// isQuiet calls QuietAfter, where -1 tells that it fails.
func isQuiet(t *testing.T, what string, c scene, level float32, most, want int64) {
	t.Helper()
	n, ok := impl.QuietAfter(c.s, c.f, level, most)
	is(t, fmt.Sprint("QuietAfter ", what, " ", level, " ", most), told(n, ok), told(max(want, 0), want >= 0))
}

func TestQuietAfterHalves(t *testing.T) {
	for _, wrap := range []bool{false, true} {
		c := plainScene(3, 3, wrap, 0, 0.5).with(map[int]float32{4: -1})
		for _, q := range []struct {
			level      float32
			most, want int64
		}{
			{infinity, 0, 0}, {2, 0, 0}, {2, maxRun, 0}, {numberOf(0x3f800001), 5, 0},
			{1, 0, -1}, {1, 1, 1}, {1, maxRun, 1}, {0.75, 1, 1}, {0.75, 0, -1},
			{0.5, 1, -1}, {0.5, 2, 2}, {0.5, maxRun, 2}, {0.25, 2, -1}, {0.25, 3, 3}, {0.3, 2, 2}, {0.125, 3, -1}, {0.125, 4, 4},
			{0x1p-62, maxRun, 63}, {0x1p-63, maxRun, 64}, {0x1p-63, 63, -1}, {0x1p-64, maxRun, -1}, {0x1p-100, maxRun, -1},
			{0, maxRun, -1}, {negativeZero, maxRun, -1}, {-1, maxRun, -1}, {-infinity, maxRun, -1}, {-infinity, 0, -1},
			{notANumber, 0, -1}, {notANumber, maxRun, -1}, {numberOf(0xff800001), maxRun, -1},
		} {
			isQuiet(t, fmt.Sprint(wrap), c, q.level, q.most, q.want)
		}
	}
}

func TestQuietAfterLosses(t *testing.T) {
	for _, wrap := range []bool{false, true} {
		c := plainScene(5, 4, wrap, 0, 1).with(map[int]float32{6: -1, 8: 5})
		isQuiet(t, "a loss of 1", c, least, maxRun, 1)
		isQuiet(t, "a loss of 1", c, least, 0, -1)
		isQuiet(t, "a loss of 1", c, 0, maxRun, -1)
		c = plainScene(5, 4, wrap, 0, 0).with(map[int]float32{6: -1})
		isQuiet(t, "no loss", c, 1, maxRun, -1)
		isQuiet(t, "no loss", c, numberOf(0x3f800001), 0, 0)
		c = plainScene(5, 4, wrap, 0.5, 0)
		isQuiet(t, "zeros", c, least, 0, 0)
		isQuiet(t, "zeros", c, 0, maxRun, -1)
		c.f.X[6], c.f.Y[6] = 7, 7
		isQuiet(t, "E alone is looked at", c, least, 0, 0)
	}
	c := plainScene(3, 3, true, 0.5, 0)
	c.f.E = repeated(infinity, 9)
	isQuiet(t, "infinities", c, infinity, 0, -1)
	isQuiet(t, "infinities that become not-a-numbers", c, infinity, 1, 1)
	isQuiet(t, "infinities that become not-a-numbers", c, least, maxRun, 1)
}

func TestQuietAfterOfAllLevels(t *testing.T) {
	source := numbers{73}
	for _, number := range someKinds {
		for n := range 20 {
			c := anyScene(&source, 3+int64(n%4), 3+int64(n%3), n%2 == 0, number)
			peaks := append([]float32{peakOf(c.f)}, c.traces(maxRun).peaks...)
			levels := append([]float32{least, notANumber, infinity, special(&source)}, peaks...)
			for _, level := range levels {
				for _, most := range []int64{0, 1, int64(source.next()>>33) % maxRun, maxRun} {
					isQuiet(t, fmt.Sprint("scene ", n), c, level, most, firstLess(peaks[:most+1], level))
					above := math.Nextafter32(level, infinity)
					isQuiet(t, fmt.Sprint("scene ", n), c, above, most, firstLess(peaks[:most+1], above))
				}
			}
		}
	}
}

func firstLess(list []float32, level float32) int64 {
	for i, x := range list {
		if x < level {
			return int64(i)
		}
	}
	return -1
}
