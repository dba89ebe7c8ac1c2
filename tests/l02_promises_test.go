package tests

import (
	"fmt"
	"math"
	"slices"
	"testing"

	"loop.example/g01201/impl"
)

// scene is a sheet with a field of it.
type scene struct {
	s impl.Sheet
	f impl.Field
}

func (c scene) told() string { return told(c.s, c.f) }

// mirrored, swapped, shifted and scaled require that nothing fails.
func (c scene) mirrored(t *testing.T) scene {
	t.Helper()
	s, ok := impl.MirrorSheet(c.s)
	is(t, "MirrorSheet succeeds", ok, true)
	f, ok := impl.MirrorField(c.s, c.f)
	is(t, "MirrorField succeeds", ok, true)
	return scene{s, f}
}

func (c scene) swapped(t *testing.T) scene {
	t.Helper()
	s, ok := impl.SwapSheet(c.s)
	is(t, "SwapSheet succeeds", ok, true)
	f, ok := impl.SwapField(c.s, c.f)
	is(t, "SwapField succeeds", ok, true)
	return scene{s, f}
}

func (c scene) shifted(t *testing.T, x, y int64) scene {
	t.Helper()
	s, ok := impl.ShiftSheet(c.s, x, y)
	is(t, "ShiftSheet succeeds", ok, true)
	f, ok := impl.ShiftField(c.s, c.f, x, y)
	is(t, "ShiftField succeeds", ok, true)
	return scene{s, f}
}

func (c scene) scaled(t *testing.T, by float32) scene {
	t.Helper()
	f, ok := impl.ScaleField(c.s, c.f, by)
	is(t, "ScaleField succeeds", ok, true)
	return scene{c.s, f}
}

// eachScene does something for a sheet of each shape with a field of it.
func eachScene(seed uint64, number func(source *numbers) float32, do func(c scene)) {
	source := numbers{seed}
	eachShape(func(wide, high int64, wrap bool) {
		s := anySheet(&source, wide, high, wrap)
		do(scene{s, anyField(&source, s, number)})
	})
}

func TestMirrorsAndExchangesUndoThemselves(t *testing.T) {
	eachScene(50, special, func(c scene) {
		is(t, "mirrored twice", c.mirrored(t).mirrored(t).told(), c.told())
		is(t, "exchanged twice", c.swapped(t).swapped(t).told(), c.told())
		turned := c
		for range 4 {
			turned = turned.mirrored(t).swapped(t)
		}
		is(t, "turned four times", turned.told(), c.told())
	})
}

func TestShiftsAreUndoneByTheirOpposites(t *testing.T) {
	source := numbers{51}
	eachScene(52, special, func(c scene) {
		if !c.s.Wrap {
			return
		}
		for _, by := range someShifts(&source, c.s.Wide, c.s.High) {
			x, y := by[0], by[1]
			shifted := c.shifted(t, x, y)
			is(t, fmt.Sprint("shifted and back ", by), shifted.shifted(t, -x, -y).told(), c.told())
			is(t, fmt.Sprint("shifted in two parts ", by), c.shifted(t, x, 0).shifted(t, 0, y).told(), shifted.told())
			is(t, fmt.Sprint("shifted and mirrored ", by), shifted.mirrored(t).told(), c.mirrored(t).shifted(t, -x, y).told())
			is(t, fmt.Sprint("shifted and exchanged ", by), shifted.swapped(t).told(), c.swapped(t).shifted(t, y, x).told())
		}
	})
}

func TestFieldsTwiceAsGreatStaySo(t *testing.T) {
	eachScene(53, special, func(c scene) {
		twice := c.scaled(t, 2)
		sum, ok := impl.AddFields(c.s, c.f, c.f)
		isField(t, "AddFields with itself", sum, ok, twice.f)
		is(t, "twice as great and mirrored", twice.mirrored(t).told(), c.mirrored(t).scaled(t, 2).told())
		is(t, "twice as great and exchanged", twice.swapped(t).told(), c.swapped(t).scaled(t, 2).told())
		if c.s.Wrap {
			is(t, "twice as great and shifted", twice.shifted(t, 5, -2).told(), c.shifted(t, 5, -2).scaled(t, 2).told())
		}
	})
}

func TestMeasuresOfFieldsTwiceAsGreat(t *testing.T) {
	eachScene(54, ordinary, func(c scene) {
		// Numbers up to 2 to the power of 35 have squares that 32 bits can hold.
		c = c.scaled(t, 0x1p-35)
		twice := c.scaled(t, 2)
		is(t, "half of twice", twice.scaled(t, 0.5).told(), c.told())
		energy, _ := impl.EnergyOf(c.s, c.f)
		got, ok := impl.EnergyOf(c.s, twice.f)
		isSum(t, "the energy of twice", got, ok, 4*energy)
		at, peak, _ := impl.PeakOf(c.s, c.f)
		index, value, ok := impl.PeakOf(c.s, twice.f)
		is(t, "the peak of twice", told(index, value, ok), told(at, 2*peak, true))
	})
}

func TestMeasuresOfMirroredFields(t *testing.T) {
	eachScene(55, smallInteger, func(c scene) {
		middle := c.s.Wide/2 + c.s.Wide*(c.s.High/2)
		c.f.E[middle] = -100
		energy, _ := impl.EnergyOf(c.s, c.f)
		mirrored, swapped := c.mirrored(t), c.swapped(t)
		got, ok := impl.EnergyOf(mirrored.s, mirrored.f)
		isSum(t, "the energy of a mirrored field", got, ok, energy)
		got, ok = impl.EnergyOf(swapped.s, swapped.f)
		isSum(t, "the energy of an exchanged field", got, ok, energy)
		at, peak, ok := impl.PeakOf(swapped.s, swapped.f)
		is(t, "the peak of an exchanged field", told(at, peak, ok), told(c.s.High/2+c.s.High*(c.s.Wide/2), float32(-100), true))
	})
}

// halfStepped makes the half step that the document tells.
func (c scene) halfStepped() scene {
	s, f := c.s, copyField(c.f)
	at := func(list []float32, x, y int64) *float32 { return atCell(list, s.Wide, s.High, x, y) }
	eachCell(s, func(x, y int64) {
		_, below, beside := isFree(s, x, y)
		if below {
			*at(f.X, x, y) -= float32(0.5 * (*at(f.E, x, y+1) - *at(f.E, x, y)))
		}
		if beside {
			*at(f.Y, x, y) += float32(0.5 * (*at(f.E, x+1, y) - *at(f.E, x, y)))
		}
	})
	return scene{s, f}
}

// stepped makes the step that the document tells, for the sake of signs and
// places: what is mirrored for the eye alone would step in another way.
func (c scene) stepped() scene {
	s, f := c.s, c.halfStepped().f
	at := func(list []float32, x, y int64) *float32 { return atCell(list, s.Wide, s.High, x, y) }
	eachCell(s, func(x, y int64) {
		if free, _, _ := isFree(s, x, y); free {
			d := (*at(f.Y, x, y) - *at(f.Y, x-1, y)) - (*at(f.X, x, y) - *at(f.X, x, y-1))
			kept := float32(*at(f.E, x, y) * (1 - *at(s.Losses, x, y)))
			*at(f.E, x, y) = kept + float32(*at(s.Speeds, x, y)*d)
		}
	})
	return scene{s, f}
}

// toldWithoutSigns is told but for the signs of zeros.
func (c scene) toldWithoutSigns() string {
	f := copyField(c.f)
	for _, list := range listsOf(f) {
		for i, x := range list {
			if x == 0 {
				list[i] = 0
			}
		}
	}
	return told(c.s, f)
}

func TestMirrorsKeepWhatAStepDoes(t *testing.T) {
	eachScene(56, ordinary, func(c scene) {
		stepped := c.stepped()
		is(t, "a mirrored step", c.mirrored(t).stepped().toldWithoutSigns(), stepped.mirrored(t).toldWithoutSigns())
		is(t, "an exchanged step", c.swapped(t).stepped().toldWithoutSigns(), stepped.swapped(t).toldWithoutSigns())
		if c.s.Wrap {
			is(t, "a shifted step", c.shifted(t, -3, 7).stepped().toldWithoutSigns(), stepped.shifted(t, -3, 7).toldWithoutSigns())
		}
	})
}

// sheetInputs are arguments for all functions of chapter 2.
type sheetInputs struct {
	s, other         impl.Sheet
	f, g             impl.Field
	wide, high, x, y int64
	value, speed     float32
}

// outcome is a result, and whether it is a zero value.
type outcome struct {
	what, told string
	ok, isZero bool
}

func outcomeOf[T any](what string, result T, ok bool) outcome {
	var zero T
	return outcome{what, told(result, ok), ok, told(result) == told(zero)}
}

func outcomesOfSheets(in sheetInputs) []outcome {
	var all []outcome
	sheet := func(what string) func(s impl.Sheet, ok bool) {
		return func(s impl.Sheet, ok bool) { all = append(all, outcomeOf(what, s, ok)) }
	}
	field := func(what string) func(f impl.Field, ok bool) {
		return func(f impl.Field, ok bool) { all = append(all, outcomeOf(what, f, ok)) }
	}
	number := func(what string) func(x float32, ok bool) {
		return func(x float32, ok bool) { all = append(all, outcomeOf(what, x, ok)) }
	}
	sheet("PlainSheet")(impl.PlainSheet(in.wide, in.high, in.s.Wrap, in.speed))
	sheet("MirrorSheet")(impl.MirrorSheet(in.s))
	sheet("SwapSheet")(impl.SwapSheet(in.s))
	sheet("ShiftSheet")(impl.ShiftSheet(in.s, in.x, in.y))
	field("ZeroField")(impl.ZeroField(in.s))
	field("PutValue")(impl.PutValue(in.s, in.f, in.x, in.y, in.value))
	field("AddFields")(impl.AddFields(in.s, in.f, in.g))
	field("ScaleField")(impl.ScaleField(in.s, in.f, in.value))
	field("MirrorField")(impl.MirrorField(in.s, in.f))
	field("SwapField")(impl.SwapField(in.s, in.f))
	field("ShiftField")(impl.ShiftField(in.s, in.f, in.x, in.y))
	number("ValueAt")(impl.ValueAt(in.s, in.f, in.x, in.y))
	number("EnergyOf")(impl.EnergyOf(in.s, in.f))
	at, peak, ok := impl.PeakOf(in.s, in.f)
	all = append(all, outcome{"PeakOf", told(at, peak, ok), ok, at == 0 && bitsOf(peak) == 0})
	valid := told(impl.ValidSheet(in.s), impl.IsField(in.s, in.f), impl.SameSheet(in.s, in.other), impl.SameField(in.f, in.g))
	return append(all, outcome{"reports", valid, true, false})
}

var (
	someCounts = []int64{0, 1, 2, 3, 4, 5, 16, 17, 32, -1, -16, -17, 1 << 32, 1 << 62, math.MaxInt64, math.MinInt64}
	someMoves  = []int64{0, 1, 2, 3, -1, -2, 15, 16, -16, 17, -17, 1 << 40, math.MaxInt64, math.MinInt64}
)

// wildList returns a list of any length and numbers.
func wildList(source *numbers) []float32 {
	list := make([]float32, picked(source, []int{0, 1, 8, 9, 10, 12, 256, 257}))
	for i := range list {
		list[i] = special(source)
	}
	return list
}

// sheetInputsAt are valid in one of two cases, but for numbers that are moves.
func sheetInputsAt(n int) sheetInputs {
	source := numbers{uint64(n)}
	side := func() int64 { return 3 + int64(source.next()>>33%14) }
	s := anySheet(&source, side(), side(), n%4 < 2)
	in := sheetInputs{
		s: s, other: copySheet(s), f: anyField(&source, s, special), g: anyField(&source, s, special),
		wide: side(), high: side(), x: picked(&source, someMoves[:9]), y: picked(&source, someMoves[:9]),
		value: special(&source), speed: part(&source) / 2,
	}
	if n%2 == 0 {
		return in
	}
	for _, change := range []func(){
		func() { in.s.Wide = picked(&source, someCounts) },
		func() { in.s.High = picked(&source, someCounts) },
		func() { in.s.Speeds = wildList(&source) },
		func() { in.s.Losses = wildList(&source) },
		func() { in.f.E = wildList(&source) },
		func() { in.g.X = wildList(&source) },
		func() { in.f.Y = wildList(&source) },
		func() { in.wide, in.high = picked(&source, someCounts), picked(&source, someCounts) },
		func() { in.x, in.y = picked(&source, someMoves), picked(&source, someMoves) },
		func() { in.speed = special(&source) },
	} {
		if source.next()>>62 == 0 {
			change()
		}
	}
	return in
}

func TestFunctionsOfSheetsReturnForAllArguments(t *testing.T) {
	succeeded, failed := map[string]int{}, map[string]int{}
	for n := range 4000 {
		for _, o := range outcomesOfSheets(sheetInputsAt(n)) {
			if o.ok {
				succeeded[o.what]++
				continue
			}
			failed[o.what]++
			is(t, fmt.Sprint(o.what, " of ", n, " fails with zero values"), o.isZero, true)
		}
	}
	for what, count := range succeeded {
		is(t, what+" succeeds and fails", count > 100 && (failed[what] > 100 || what == "reports"), true)
	}
}

func TestEqualSheetsHaveEqualResults(t *testing.T) {
	for n := range 1000 {
		first := outcomesOfSheets(sheetInputsAt(n))
		outcomesOfSheets(sheetInputsAt(n + 1))
		if second := outcomesOfSheets(sheetInputsAt(n)); !slices.Equal(first, second) {
			t.Fatalf("inputs %d: got %v, then %v", n, first, second)
		}
	}
}

// roomyInputs puts all lists in arrays that have more on both sides.
func roomyInputs(in sheetInputs) (sheetInputs, [][]float32) {
	var all [][]float32
	for _, list := range []*[]float32{
		&in.s.Speeds, &in.s.Losses, &in.other.Speeds, &in.other.Losses,
		&in.f.E, &in.f.X, &in.f.Y, &in.g.E, &in.g.X, &in.g.Y,
	} {
		array, part := roomy(*list, 11)
		*list = part
		all = append(all, array)
	}
	return in, all
}

func toldAll(lists [][]float32) string {
	s := ""
	for _, list := range lists {
		s += told(list[:cap(list)])
	}
	return s
}

func TestSheetsAndFieldsAreNotModified(t *testing.T) {
	for n := range 400 {
		in, arrays := roomyInputs(sheetInputsAt(n))
		before := toldAll(arrays)
		outcomesOfSheets(in)
		if toldAll(arrays) != before {
			t.Fatalf("inputs %d have been modified", n)
		}
	}
}

// madeLists returns the lists of each sheet and each field that is made.
func madeLists(in sheetInputs) map[string][][]float32 {
	all := map[string][][]float32{}
	sheet := func(what string) func(s impl.Sheet, ok bool) {
		return func(s impl.Sheet, ok bool) { all[what] = [][]float32{s.Speeds, s.Losses} }
	}
	field := func(what string) func(f impl.Field, ok bool) {
		return func(f impl.Field, ok bool) { all[what] = [][]float32{f.E, f.X, f.Y} }
	}
	sheet("PlainSheet")(impl.PlainSheet(in.wide, in.high, in.s.Wrap, in.speed))
	sheet("MirrorSheet")(impl.MirrorSheet(in.s))
	sheet("SwapSheet")(impl.SwapSheet(in.s))
	sheet("ShiftSheet")(impl.ShiftSheet(in.s, 0, 0))
	field("ZeroField")(impl.ZeroField(in.s))
	field("PutValue")(impl.PutValue(in.s, in.f, 1, 1, in.value))
	field("AddFields")(impl.AddFields(in.s, in.f, in.g))
	field("ScaleField")(impl.ScaleField(in.s, in.f, 1))
	field("MirrorField")(impl.MirrorField(in.s, in.f))
	field("SwapField")(impl.SwapField(in.s, in.f))
	field("ShiftField")(impl.ShiftField(in.s, in.f, 0, 0))
	return all
}

func TestSheetsAndFieldsOwnTheirMemory(t *testing.T) {
	in, arrays := roomyInputs(sheetInputsAt(0))
	is(t, "the sheet has joined edges", in.s.Wrap, true)
	for what, lists := range madeLists(in) {
		for i, list := range lists {
			is(t, what+" has numbers", len(list) > 0, true)
			others := append(slices.Clone(arrays), lists[:i]...)
			others = append(others, lists[i+1:]...)
			before := toldAll(others)
			room := list[:cap(list)]
			for k := range room {
				room[k] = 12345
			}
			is(t, fmt.Sprint("list ", i, " of ", what, " has its own memory"), toldAll(others) == before, true)
		}
	}
	first := outcomesOfSheets(sheetInputsAt(0))
	is(t, "later results", slices.Equal(outcomesOfSheets(in), first), true)
}

func TestNilIsAnEmptyListOfCells(t *testing.T) {
	none := sheetInputs{s: impl.Sheet{Wide: 3, High: 3}}
	empty := sheetInputs{
		s: impl.Sheet{Wide: 3, High: 3, Speeds: []float32{}, Losses: []float32{}},
		f: impl.Field{E: []float32{}, X: []float32{}, Y: []float32{}},
	}
	is(t, "lists of no numbers", slices.Equal(outcomesOfSheets(none), outcomesOfSheets(empty)), true)
	is(t, "SameSheet", impl.SameSheet(none.s, empty.s), true)
	is(t, "SameField", impl.SameField(none.f, empty.f), true)
}
