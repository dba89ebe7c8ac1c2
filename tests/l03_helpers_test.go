package tests

import (
	"fmt"
	"math"
	"slices"
	"testing"

	"loop.example/g01201/impl"
)

const maxRun = 64

// near returns a number from -1 to less than 1.
func near(source *numbers) float32 { return part(source)*2 - 1 }

// fewBits returns numbers of which many are equal, and zeros of both signs.
func fewBits(source *numbers) float32 {
	return picked(source, []float32{0, negativeZero, 0, negativeZero, 1, -1, 1, -1, 0.5, -2, least, -least})
}

// someKinds are all kinds of numbers of fields.
var someKinds = map[string]func(source *numbers) float32{
	"near": near, "few bits": fewBits, "special": special, "ordinary": ordinary, "integers": smallInteger,
}

// plainScene returns the sheet with a speed and a loss in all cells, and +0.
func plainScene(wide, high int64, wrap bool, speed, loss float32) scene {
	s := blankSheet(wide, high, wrap)
	s.Speeds, s.Losses = repeated(speed, int(wide*high)), repeated(loss, int(wide*high))
	return scene{s, blankField(s)}
}

// with returns the scene with some numbers of E.
func (c scene) with(values map[int]float32) scene {
	f := copyField(c.f)
	for i, x := range values {
		f.E[i] = x
	}
	return scene{c.s, f}
}

// anyScene returns a sheet whose cells differ with a field of some kind.
func anyScene(source *numbers, wide, high int64, wrap bool, number func(source *numbers) float32) scene {
	s := anySheet(source, wide, high, wrap)
	return scene{s, anyField(source, s, number)}
}

// ranReference makes steps that the document tells, without help of the package.
func (c scene) ranReference(steps int64) scene {
	for range steps {
		c = c.stepped()
	}
	return c
}

// ran requires that the steps do not fail.
func (c scene) ran(t *testing.T, steps int64) scene {
	t.Helper()
	f, ok := impl.RunField(c.s, c.f, steps)
	is(t, "RunField succeeds", ok, true)
	return scene{c.s, f}
}

// peakOf returns the greatest absolute value of E, or 0 if there is none.
func peakOf(f impl.Field) float32 {
	peak := float32(0)
	for _, x := range f.E {
		if x > peak {
			peak = x
		}
		if -x > peak {
			peak = -x
		}
	}
	return peak
}

// wayOf returns the way between two cells as the document tells it.
func wayOf(s impl.Sheet, a, b int64) int64 {
	part := func(from, to, side int64) int64 {
		d := max(from-to, to-from)
		if s.Wrap && side-d < d {
			return side - d
		}
		return d
	}
	return part(a%s.Wide, b%s.Wide, s.Wide) + part(a/s.Wide, b/s.Wide, s.High)
}

// reachedFrom returns the indices of the cells with a way of at most steps.
func reachedFrom(s impl.Sheet, at, steps int64) []int64 {
	var reached []int64
	for i := range s.Wide * s.High {
		if wayOf(s, at, i) <= steps {
			reached = append(reached, i)
		}
	}
	return reached
}

func isList(t *testing.T, what string, got []float32, ok bool, want ...float32) {
	t.Helper()
	is(t, what, told(got, ok), told(want, true))
}

func isSet(t *testing.T, what string, got []int64, ok bool, want ...int64) {
	t.Helper()
	if !ok || !slices.Equal(got, want) {
		t.Errorf("%s: got %v %v, want %v", what, got, ok, want)
	}
}

// refusesSteps checks that all functions that make some steps of a field fail.
func refusesSteps(t *testing.T, what string, s impl.Sheet, f impl.Field, steps int64) {
	t.Helper()
	g, ok := impl.RunField(s, f, steps)
	isNoField(t, "RunField "+what, g, ok)
	for name, trace := range map[string]func(s impl.Sheet, f impl.Field, steps int64) ([]float32, bool){
		"EnergyTrace": impl.EnergyTrace, "PeakTrace": impl.PeakTrace, "SumOfSteps": impl.SumOfSteps,
		"TraceOf": func(s impl.Sheet, f impl.Field, steps int64) ([]float32, bool) {
			return impl.TraceOf(s, f, 1, 1, steps)
		},
	} {
		list, ok := trace(s, f, steps)
		is(t, name+" "+what, fmt.Sprint(len(list), ok), "0 false")
	}
	for _, level := range []float32{infinity, 1, math.MaxFloat32} {
		n, ok := impl.QuietAfter(s, f, level, steps)
		is(t, "QuietAfter "+what, told(n, ok), told(int64(0), false))
	}
}

// withField takes all numbers of a field.
func (d digest) withField(f impl.Field) digest {
	for _, list := range listsOf(f) {
		for _, x := range list {
			d = d.with(bitsOf(x))
		}
	}
	return d
}
