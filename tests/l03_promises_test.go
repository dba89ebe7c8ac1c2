package tests

import (
	"fmt"
	"math"
	"slices"
	"testing"

	"loop.example/g01201/impl"
)

// mildScene returns a scene in which nothing becomes subnormal or too great.
func mildScene(source *numbers, wide, high int64, wrap bool) scene {
	s := blankSheet(wide, high, wrap)
	for i := range s.Speeds {
		s.Speeds[i] = picked(source, []float32{0, 0.5, 0.125 + part(source)*3/8, 0.125 + part(source)*3/8})
		s.Losses[i] = picked(source, []float32{0, 1, part(source) / 2, part(source) / 2})
	}
	return scene{s, anyField(source, s, near)}
}

var someRuns = []int64{0, 1, 2, 7, maxRun}

func TestMirroredFieldsStepAsTheirSheets(t *testing.T) {
	for kind, number := range someKinds {
		eachScene(90, number, func(c scene) {
			for _, steps := range []int64{1, 3} {
				what := fmt.Sprint(" ", kind, steps, c.s.Wide, c.s.High, c.s.Wrap)
				ran := c.ran(t, steps)
				is(t, "mirrored"+what, c.mirrored(t).ran(t, steps).toldWithoutSigns(), ran.mirrored(t).toldWithoutSigns())
				is(t, "exchanged"+what, c.swapped(t).ran(t, steps).toldWithoutSigns(), ran.swapped(t).toldWithoutSigns())
				if c.s.Wrap {
					is(t, "shifted"+what, c.shifted(t, 2, -5).ran(t, steps).told(), ran.shifted(t, 2, -5).told())
				}
			}
		})
	}
}

func TestTurnedFieldsRunAsTheirSheets(t *testing.T) {
	source := numbers{91}
	for n := range 40 {
		c := mildScene(&source, 3+int64(source.next()>>33%14), 3+int64(source.next()>>33%14), n%2 == 0)
		turned := func(c scene) scene { return c.mirrored(t).swapped(t) }
		for _, steps := range someRuns {
			is(t, fmt.Sprint("turned ", n, steps), turned(c).ran(t, steps).toldWithoutSigns(), turned(c.ran(t, steps)).toldWithoutSigns())
		}
	}
}

func TestShiftedFieldsRunAsTheirSheets(t *testing.T) {
	source := numbers{92}
	for _, side := range someSides {
		c := mildScene(&source, side[0], side[1], true)
		ran := c.ran(t, maxRun)
		for _, by := range someShifts(&source, side[0], side[1]) {
			is(t, fmt.Sprint("shifted ", side, by), c.shifted(t, by[0], by[1]).ran(t, maxRun).told(), ran.shifted(t, by[0], by[1]).told())
		}
	}
}

func TestMeasuresOfMirroredRuns(t *testing.T) {
	source := numbers{93}
	for n := range 40 {
		c := mildScene(&source, 3+int64(n%5), 3+int64(n%7), n%2 == 0)
		want, _ := impl.PeakTrace(c.s, c.f, maxRun)
		for what, m := range map[string]scene{"mirrored": c.mirrored(t), "exchanged": c.swapped(t), "the opposite": c.scaled(t, -1)} {
			got, ok := impl.PeakTrace(m.s, m.f, maxRun)
			isList(t, "PeakTrace, "+what, got, ok, want...)
			quiet, isQuiet := impl.QuietAfter(c.s, c.f, 0.5, maxRun)
			steps, ok := impl.QuietAfter(m.s, m.f, 0.5, maxRun)
			is(t, "QuietAfter, "+what, told(steps, ok), told(quiet, isQuiet))
		}
	}
}

func TestHalfStepsOfMirroredFields(t *testing.T) {
	half := func(c scene) scene {
		f, ok := impl.HalfStep(c.s, c.f)
		is(t, "HalfStep succeeds", ok, true)
		return scene{c.s, f}
	}
	eachScene(94, special, func(c scene) {
		is(t, "mirrored", half(c.mirrored(t)).toldWithoutSigns(), half(c).mirrored(t).toldWithoutSigns())
		is(t, "exchanged", half(c.swapped(t)).toldWithoutSigns(), half(c).swapped(t).toldWithoutSigns())
		if c.s.Wrap {
			is(t, "shifted", half(c.shifted(t, -1, 3)).told(), half(c).shifted(t, -1, 3).told())
		}
	})
}

func TestFieldsTwiceAsGreatStayTwiceAsGreat(t *testing.T) {
	source := numbers{95}
	eachShape(func(wide, high int64, wrap bool) {
		c := mildScene(&source, wide, high, wrap)
		for _, steps := range someRuns {
			ran := c.ran(t, steps)
			for _, by := range []float32{2, 0.5, 0x1p40} {
				is(t, fmt.Sprint("times ", by, steps), c.scaled(t, by).ran(t, steps).told(), ran.scaled(t, by).told())
			}
			is(t, fmt.Sprint("the opposite ", steps), c.scaled(t, -1).ran(t, steps).toldWithoutSigns(), ran.scaled(t, -1).toldWithoutSigns())
		}
	})
}

// isStill checks that all numbers are zeros in cells with a longer way to one.
func isStill(t *testing.T, what string, c scene, at, steps int64) {
	t.Helper()
	for k, list := range listsOf(c.f) {
		for i, x := range list {
			if x != 0 && wayOf(c.s, at, int64(i)) > steps {
				t.Errorf("%s: %v is in list %d at %d", what, x, k, i)
			}
		}
	}
}

func TestNothingMovesByMoreThanOneCell(t *testing.T) {
	source := numbers{96}
	values := []float32{1, -3, least, math.MaxFloat32, -infinity, notANumber}
	for _, side := range [][2]int64{{3, 3}, {4, 5}, {6, 3}, {9, 8}} {
		for _, wrap := range []bool{false, true} {
			s := anySheet(&source, side[0], side[1], wrap)
			for at := range side[0] * side[1] {
				for k := range 3 {
					c := scene{s, blankField(s)}
					listsOf(c.f)[k][at] = picked(&source, values)
					if !impl.IsField(c.s, c.f) {
						continue
					}
					for steps := range int64(10) {
						isStill(t, fmt.Sprint("list ", k, " at ", at, " behind ", steps, wrap), c.ran(t, steps), at, steps)
					}
				}
			}
		}
	}
}

func TestWavesMoveByOneCellAStep(t *testing.T) {
	for _, wrap := range []bool{false, true} {
		c := plainScene(16, 16, wrap, 0.5, 0).with(map[int]float32{8 + 16*8: 1})
		for steps := range int64(8) {
			reached, ok := impl.ReachOf(c.s, 8, 8, steps)
			is(t, "ReachOf succeeds", ok, true)
			ran := c.ran(t, steps)
			far, ok := impl.FarCells(ran.s, ran.f)
			is(t, "FarCells succeeds", ok, true)
			for i := range int64(256) {
				is(t, fmt.Sprint("cell ", i, " is reached or far"), slices.Contains(reached, i) || slices.Contains(far, i), true)
			}
			// The first to arrive has not met anything yet, so it is not a zero.
			for _, at := range []int64{8 - steps + 16*8, 8 + 16*(8-steps)} {
				is(t, fmt.Sprint("E at ", at, " behind ", steps), ran.f.E[at] != 0, true)
			}
		}
	}
}

func TestWhatDiffersInOneCellStaysNear(t *testing.T) {
	source := numbers{97}
	for n := range 60 {
		c := anyScene(&source, 3+int64(n%8), 3+int64(n%5), n%2 == 0, special)
		at := int64(source.next()>>33) % (c.s.Wide * c.s.High)
		other := scene{c.s, copyField(c.f)}
		list := listsOf(other.f)[n%3]
		for list[at] = special(&source); !impl.IsField(other.s, other.f); {
			list[at] = 0
		}
		for steps := range int64(5) {
			one, two := c.ran(t, steps), other.ran(t, steps)
			for k := range 3 {
				for i := range c.f.E {
					if wayOf(c.s, at, int64(i)) > steps {
						isNumber(t, fmt.Sprint("number ", k, i, " behind ", steps), listsOf(two.f)[k][i], listsOf(one.f)[k][i])
					}
				}
			}
		}
	}
}

// walls are the numbers that stay as they are, in order.
func walls(c scene) []float32 {
	var all []float32
	eachCell(c.s, func(x, y int64) {
		e, below, beside := isFree(c.s, x, y)
		for k, free := range []bool{e, below, beside} {
			if !free {
				all = append(all, listsOf(c.f)[k][x+c.s.Wide*y])
			}
		}
	})
	return all
}

func TestWallsKeepWhatTheyHave(t *testing.T) {
	for kind, number := range someKinds {
		eachScene(98, number, func(c scene) {
			if c.s.Wrap {
				return
			}
			kept := told(walls(c))
			half, ok := impl.HalfStep(c.s, c.f)
			is(t, "HalfStep succeeds", ok, true)
			is(t, "E behind HalfStep", told(half.E), told(c.f.E))
			is(t, "walls behind HalfStep "+kind, told(walls(scene{c.s, half})), kept)
			for _, steps := range []int64{1, 2, 9} {
				is(t, "walls behind steps "+kind, told(walls(c.ran(t, steps))), kept)
			}
		})
	}
	source := numbers{99}
	c := anyScene(&source, 16, 16, false, near)
	is(t, "walls behind MaxRun steps", told(walls(c.ran(t, maxRun))), told(walls(c)))
}

// stepInputs are arguments for all functions of chapter 3.
type stepInputs struct {
	sheetInputs
	steps int64
	level float32
}

var someSteps = []int64{-1, 65, 66, -64, 1 << 32, math.MaxInt64, math.MinInt64}

// stepInputsAt are valid in one of two cases, but for cells.
func stepInputsAt(n int) stepInputs {
	in := stepInputs{sheetInputs: sheetInputsAt(n)}
	source := numbers{uint64(n) + 1<<40}
	in.steps = picked(&source, []int64{0, 1, 2, 3, 4, 5})
	if source.next()>>33%40 == 0 {
		in.steps = maxRun
	}
	in.level = picked(&source, []float32{infinity, math.MaxFloat32, 1, special(&source)})
	if n%2 == 1 && source.next()>>62 == 0 {
		in.steps = picked(&source, someSteps)
	}
	return in
}

// collect returns a function that takes what a function returns.
func collect[T any](all *[]outcome, what string) func(result T, ok bool) {
	return func(result T, ok bool) { *all = append(*all, outcomeOf(what, result, ok)) }
}

func outcomesOfSteps(in stepInputs) []outcome {
	var all []outcome
	collect[impl.Field](&all, "StepField")(impl.StepField(in.s, in.f))
	collect[impl.Field](&all, "HalfStep")(impl.HalfStep(in.s, in.f))
	collect[impl.Field](&all, "RunField")(impl.RunField(in.s, in.f, in.steps))
	collect[[]float32](&all, "TraceOf")(impl.TraceOf(in.s, in.f, in.x, in.y, in.steps))
	collect[[]float32](&all, "EnergyTrace")(impl.EnergyTrace(in.s, in.f, in.steps))
	collect[[]float32](&all, "PeakTrace")(impl.PeakTrace(in.s, in.f, in.steps))
	collect[[]float32](&all, "SumOfSteps")(impl.SumOfSteps(in.s, in.f, in.steps))
	collect[int64](&all, "QuietAfter")(impl.QuietAfter(in.s, in.f, in.level, in.steps))
	collect[[]int64](&all, "ReachOf")(impl.ReachOf(in.s, in.x, in.y, in.steps))
	collect[[]int64](&all, "FarCells")(impl.FarCells(in.s, in.f))
	collect[[]float32](&all, "RowOf")(impl.RowOf(in.s, in.f, in.y))
	collect[[]float32](&all, "ColumnOf")(impl.ColumnOf(in.s, in.f, in.x))
	return all
}

func TestFunctionsOfStepsReturnForAllArguments(t *testing.T) {
	succeeded, failed := map[string]int{}, map[string]int{}
	for n := range 2500 {
		for _, o := range outcomesOfSteps(stepInputsAt(n)) {
			if o.ok {
				succeeded[o.what]++
				continue
			}
			failed[o.what]++
			is(t, fmt.Sprint(o.what, " of ", n, " fails with zero values"), o.isZero, true)
		}
	}
	is(t, "how many functions succeed", len(succeeded), 12)
	for what, count := range succeeded {
		is(t, what+" succeeds and fails", count > 100 && failed[what] > 100, true)
	}
}

func TestEqualFieldsHaveEqualSteps(t *testing.T) {
	for n := range 800 {
		first := outcomesOfSteps(stepInputsAt(n))
		outcomesOfSteps(stepInputsAt(n + 1))
		if second := outcomesOfSteps(stepInputsAt(n)); !slices.Equal(first, second) {
			t.Fatalf("inputs %d: got %v, then %v", n, first, second)
		}
	}
}

func TestStepsDoNotModifyTheirArguments(t *testing.T) {
	for n := range 400 {
		in := stepInputsAt(n)
		var arrays [][]float32
		in.sheetInputs, arrays = roomyInputs(in.sheetInputs)
		before := toldAll(arrays)
		outcomesOfSteps(in)
		if toldAll(arrays) != before {
			t.Fatalf("inputs %d have been modified", n)
		}
	}
}

// madeOfSteps returns the lists of numbers of all that is made.
func madeOfSteps(in stepInputs) map[string][][]float32 {
	all := map[string][][]float32{}
	field := func(what string) func(f impl.Field, ok bool) {
		return func(f impl.Field, ok bool) { all[what] = [][]float32{f.E, f.X, f.Y} }
	}
	list := func(what string) func(list []float32, ok bool) {
		return func(list []float32, ok bool) { all[what] = [][]float32{list} }
	}
	field("StepField")(impl.StepField(in.s, in.f))
	field("HalfStep")(impl.HalfStep(in.s, in.f))
	field("RunField with steps")(impl.RunField(in.s, in.f, 5))
	field("RunField without steps")(impl.RunField(in.s, in.f, 0))
	list("TraceOf")(impl.TraceOf(in.s, in.f, 1, 2, 5))
	list("EnergyTrace")(impl.EnergyTrace(in.s, in.f, 5))
	list("PeakTrace")(impl.PeakTrace(in.s, in.f, 5))
	list("SumOfSteps")(impl.SumOfSteps(in.s, in.f, 5))
	list("SumOfSteps without steps")(impl.SumOfSteps(in.s, in.f, 0))
	list("RowOf")(impl.RowOf(in.s, in.f, 0))
	list("the last RowOf")(impl.RowOf(in.s, in.f, in.s.High-1))
	list("ColumnOf")(impl.ColumnOf(in.s, in.f, 0))
	return all
}

func TestWhatStepsReturnOwnsItsMemory(t *testing.T) {
	for _, n := range []int{0, 2} {
		in := stepInputsAt(n)
		var arrays [][]float32
		in.sheetInputs, arrays = roomyInputs(in.sheetInputs)
		first := outcomesOfSteps(in)
		for what, lists := range madeOfSteps(in) {
			for i, list := range lists {
				is(t, what+" has numbers", len(list) > 0, true)
				others := append(slices.Clone(arrays), lists[:i]...)
				others = append(others, lists[i+1:]...)
				before := toldAll(others)
				room := list[:cap(list)]
				for k := range room {
					room[k] = 12345
				}
				is(t, fmt.Sprint("list ", i, " of ", what, " has its own memory"), toldAll(others) == before, true)
			}
		}
		is(t, "later results", slices.Equal(outcomesOfSteps(in), first), true)
	}
}

func TestSetsOfCellsOwnTheirMemory(t *testing.T) {
	c := plainScene(4, 5, true, 0.5, 0)
	for what, find := range map[string]func() ([]int64, bool){
		"ReachOf":  func() ([]int64, bool) { return impl.ReachOf(c.s, 1, 1, 2) },
		"FarCells": func() ([]int64, bool) { return impl.FarCells(c.s, c.f) },
	} {
		list, _ := find()
		want := slices.Clone(list)
		for i := range list[:cap(list)] {
			list[:cap(list)][i] = 12345
		}
		got, ok := find()
		isSet(t, what, got, ok, want...)
	}
}

func TestNilIsAnEmptyListOfSteps(t *testing.T) {
	none := stepInputs{sheetInputs: sheetInputs{s: impl.Sheet{Wide: 3, High: 3}}, steps: 1, level: 1}
	empty := none
	empty.s.Speeds, empty.s.Losses = []float32{}, []float32{}
	empty.f = impl.Field{E: []float32{}, X: []float32{}, Y: []float32{}}
	is(t, "lists of no numbers", slices.Equal(outcomesOfSteps(none), outcomesOfSteps(empty)), true)
}
