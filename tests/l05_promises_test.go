package tests

import (
	"fmt"
	"math"
	"slices"
	"testing"

	"loop.example/g01201/impl"
)

// gradedBy requires that grading succeeds, and that all losses are from 0 to 1.
func gradedBy(t *testing.T, s impl.Sheet, width int64, most float32) impl.Sheet {
	t.Helper()
	what := fmt.Sprint("GradeLosses ", s.Wide, s.High, s.Wrap, width, most)
	got, ok := impl.GradeLosses(s, width, most)
	is(t, what+" succeeds", ok, true)
	for i, loss := range got.Losses {
		is(t, fmt.Sprint(what, ": the loss ", i, " is from 0 to 1"), loss >= 0 && loss <= 1, true)
		is(t, fmt.Sprint(what, ": the loss ", i, " is not less than before"), loss >= s.Losses[i], true)
	}
	is(t, what+" returns a sheet", impl.ValidSheet(got), true)
	is(t, what+" leaves the speeds", told(got.Speeds), told(s.Speeds))
	return got
}

func TestGradedLossesStayFrom0To1(t *testing.T) {
	source := numbers{210}
	eachShape(func(wide, high int64, wrap bool) {
		for range 2 {
			s := anySheet(&source, wide, high, wrap)
			for range 4 {
				s = gradedBy(t, s, 1+below(&source, maxSide), picked(&source, []float32{0, 1, 0.5, part(&source)}))
			}
		}
		ones := blankSheet(wide, high, wrap)
		ones.Losses = repeated[float32](1, int(wide*high))
		for _, width := range []int64{1, 2, maxSide} {
			for _, most := range []float32{0, least, 0.3, 1} {
				got := gradedBy(t, ones, width, most)
				is(t, "losses of 1 stay", told(got.Losses), told(ones.Losses))
			}
		}
	})
}

// Losses that are graded again and again become 1, and no more.
func TestLossesThatAreGradedAgainAndAgain(t *testing.T) {
	for _, wrap := range []bool{false, true} {
		s := plainScene(7, 6, wrap, 0.5, 0.1).s
		for range 200 {
			s = gradedBy(t, s, maxSide, 0.1)
		}
		is(t, "all losses", told(s.Losses), told(repeated[float32](1, 42)))
	}
}

func TestDeeperCellsAreGradedLess(t *testing.T) {
	eachShape(func(wide, high int64, wrap bool) {
		for _, width := range []int64{1, 3, 8, maxSide} {
			s := gradedBy(t, blankSheet(wide, high, wrap), width, 1)
			byDepth := map[int64]float32{}
			eachCell(s, func(x, y int64) {
				d, loss := depthIn(s, x, y), s.Losses[x+wide*y]
				if before, ok := byDepth[d]; ok {
					is(t, "cells with one depth have one loss", bitsOf(loss), bitsOf(before))
				}
				byDepth[d] = loss
			})
			is(t, "the loss of the border", byDepth[0], 1)
			for d := int64(1); d <= (min(wide, high)-1)/2; d++ {
				is(t, fmt.Sprint("a loss with the depth ", d), byDepth[d] < byDepth[d-1] || d > width && byDepth[d] == 0, true)
			}
		}
	})
}

func TestRectsHaveWhatTheyAreGiven(t *testing.T) {
	source := numbers{211}
	eachScene(212, special, func(c scene) {
		for _, r := range append(someRects(c.s), anyRect(&source, c.s)) {
			speed, loss := picked(&source, someSpeeds), picked(&source, someLosses)
			s, ok := impl.FillRect(c.s, r, speed, loss)
			is(t, "FillRect succeeds", ok, true)
			f, ok := impl.ClearRect(c.s, c.f, r)
			is(t, "ClearRect succeeds", ok, true)
			for i, isIn := range cellsOf(c.s, r) {
				want := told(c.s.Speeds[i], c.s.Losses[i], c.f.E[i], c.f.X[i], c.f.Y[i])
				if isIn {
					want = told(speed, loss, float32(0), float32(0), float32(0))
				}
				is(t, fmt.Sprint("the cell ", i, " with the rect ", r), told(s.Speeds[i], s.Losses[i], f.E[i], f.X[i], f.Y[i]), want)
			}
			isSumOf(t, "what is left in a rect", 0)(impl.EnergyIn(c.s, f, r))
		}
	})
}

func TestRectsThatAreGivenSomethingTwice(t *testing.T) {
	source := numbers{213}
	eachScene(214, special, func(c scene) {
		r, other := anyRect(&source, c.s), anyRect(&source, c.s)
		speed, loss := picked(&source, someSpeeds), picked(&source, someLosses)
		first, _ := impl.FillRect(c.s, r, speed, loss)
		again, ok := impl.FillRect(first, r, speed, loss)
		isSheet(t, "FillRect twice", again, ok, first)
		with, _ := impl.FillRect(c.s, other, 0.125, 0.5)
		got, ok := impl.FillRect(with, r, speed, loss)
		want := copySheet(with)
		marks := cellsOf(c.s, r)
		want.Speeds, want.Losses = markedWith(with.Speeds, marks, speed), markedWith(with.Losses, marks, loss)
		isSheet(t, "FillRect of two rects", got, ok, want)
		one, _ := impl.ClearRect(c.s, c.f, r)
		both, _ := impl.ClearRect(c.s, one, other)
		two, _ := impl.ClearRect(c.s, c.f, other)
		swapped, ok := impl.ClearRect(c.s, two, r)
		isField(t, "ClearRect of two rects", swapped, ok, both)
	})
}

// Depths are those of a mirrored and an exchanged sheet, and so are borders.
func TestBordersOfMirroredSheets(t *testing.T) {
	source := numbers{215}
	eachScene(216, special, func(c scene) {
		width, most := 1+below(&source, maxSide), part(&source)
		for _, turn := range []func(c scene) scene{
			func(c scene) scene { return c.mirrored(t) },
			func(c scene) scene { return c.swapped(t) },
		} {
			turned := turn(c)
			s, ok := impl.GradeLosses(turned.s, width, most)
			isSheet(t, "GradeLosses of a turned sheet", s, ok, turn(scene{gradedBy(t, c.s, width, most), c.f}).s)
			ramped, ok := impl.RampField(c.s, c.f, width)
			is(t, "RampField succeeds", ok, true)
			f, ok := impl.RampField(turned.s, turned.f, width)
			isField(t, "RampField of a turned field", f, ok, turn(scene{c.s, ramped}).f)
			cost, _ := impl.SheetCost(c.s)
			got, ok := impl.SheetCost(turned.s)
			is(t, "SheetCost of a turned sheet", told(got, ok), told(cost, true))
		}
	})
}

// Integers have sums that do not depend on the order.
func TestEnergiesOfPartsOfRects(t *testing.T) {
	source := numbers{217}
	eachScene(218, smallInteger, func(c scene) {
		r := anyRect(&source, c.s)
		whole, ok := impl.EnergyIn(c.s, c.f, r)
		is(t, "EnergyIn succeeds", ok, true)
		sum := float32(0)
		for x := range r.Wide {
			part, ok := impl.EnergyIn(c.s, c.f, impl.Rect{X: r.X + x, Y: r.Y, Wide: 1, High: r.High})
			is(t, "EnergyIn succeeds", ok, true)
			sum += part
		}
		isNumber(t, "the sum of all columns", sum, whole)
		cleared, _ := impl.ClearRect(c.s, c.f, r)
		left, _ := impl.EnergyOf(c.s, cleared)
		all, _ := impl.EnergyOf(c.s, c.f)
		isNumber(t, "what is left beside the rect", all-left, whole)
	})
}

// A sheet whose border loses everything swallows what comes.
func TestBordersThatSwallow(t *testing.T) {
	for _, wrap := range []bool{false, true} {
		c := plainScene(16, 16, wrap, 0.25, 0).with(map[int]float32{136: 1})
		before, _ := impl.EnergyOf(c.s, c.f)
		swallows := scene{gradedBy(t, c.s, 6, 0.5), c.f}.ran(t, maxRun)
		keeps := c.ran(t, maxRun)
		less, _ := impl.EnergyOf(c.s, swallows.f)
		more, _ := impl.EnergyOf(c.s, keeps.f)
		is(t, fmt.Sprint("energies ", less, more, before), less < more/2 && less < before/2, true)
	}
}

// borderInputs are arguments for all functions of chapter 5.
type borderInputs struct {
	sheetInputs
	r               impl.Rect
	width, from, to int64
	slits           []int64
	most, loss      float32
}

// borderInputsAt are valid in one of two cases.
func borderInputsAt(n int) borderInputs {
	in := borderInputs{sheetInputs: sheetInputsAt(n)}
	source := numbers{uint64(n) + 1<<42}
	whole := in.s
	if !impl.ValidSheet(whole) {
		whole = blankSheet(3, 4, in.s.Wrap)
	}
	in.x, in.y = below(&source, whole.Wide), below(&source, whole.High)
	in.r, in.width = anyRect(&source, whole), 1+below(&source, maxSide)
	in.from = below(&source, whole.High)
	in.to = in.from + below(&source, whole.High-in.from)
	in.slits = anySlits(&source, whole.High)
	in.most, in.loss = part(&source), picked(&source, someLosses)
	if n%2 == 0 {
		return in
	}
	for _, change := range []func(){
		func() { in.r.X, in.r.Wide = wild(&source), wild(&source) },
		func() { in.r.Y, in.r.High = wild(&source), wild(&source) },
		func() { in.r = picked(&source, noRects()) },
		func() { in.width = wild(&source) },
		func() { in.from, in.to = wild(&source), wild(&source) },
		func() { in.from, in.to = in.to, in.from },
		func() { in.x, in.y = wild(&source), wild(&source) },
		func() { in.slits = append(in.slits, wild(&source)) },
		func() { in.slits = append([]int64{wild(&source)}, in.slits...) },
		func() { in.slits = append(in.slits, in.slits...) },
		func() { in.most, in.loss = special(&source), special(&source) },
	} {
		if source.next()>>62 == 0 {
			change()
		}
	}
	return in
}

func outcomesOfBorders(in borderInputs) []outcome {
	var all []outcome
	collect[int64](&all, "DepthOf")(impl.DepthOf(in.s, in.x, in.y))
	collect[impl.Sheet](&all, "GradeLosses")(impl.GradeLosses(in.s, in.width, in.most))
	collect[impl.Field](&all, "RampField")(impl.RampField(in.s, in.f, in.width))
	collect[impl.Sheet](&all, "FillRect")(impl.FillRect(in.s, in.r, in.speed, in.loss))
	collect[impl.Field](&all, "ClearRect")(impl.ClearRect(in.s, in.f, in.r))
	collect[impl.Sheet](&all, "ChannelSheet")(impl.ChannelSheet(in.s, in.from, in.to))
	collect[impl.Sheet](&all, "SlitSheet")(impl.SlitSheet(in.s, in.x, in.slits))
	collect[float32](&all, "EnergyIn")(impl.EnergyIn(in.s, in.f, in.r))
	collect[float32](&all, "FluxThrough")(impl.FluxThrough(in.s, in.f, in.x))
	collect[float32](&all, "EdgeEnergy")(impl.EdgeEnergy(in.s, in.f, in.width))
	collect[[]int64](&all, "StillCells")(impl.StillCells(in.s))
	collect[int64](&all, "SheetCost")(impl.SheetCost(in.s))
	return append(all, outcome{"reports", told(impl.IsRect(in.s, in.r)), true, false})
}

func TestFunctionsOfBordersReturnForAllArguments(t *testing.T) {
	succeeded, failed := map[string]int{}, map[string]int{}
	for n := range 4000 {
		for _, o := range outcomesOfBorders(borderInputsAt(n)) {
			if o.ok {
				succeeded[o.what]++
				continue
			}
			failed[o.what]++
			is(t, fmt.Sprint(o.what, " of ", n, " fails with zero values"), o.isZero, true)
			is(t, fmt.Sprint(o.what, " of ", n, " is not valid"), n%2, 1)
		}
	}
	is(t, "how many functions succeed", len(succeeded), 13)
	for what, count := range succeeded {
		is(t, what+" succeeds and fails", count > 100 && (failed[what] > 100 || what == "reports"), true)
	}
}

func TestFunctionsOfBordersReturnForGreatSheets(t *testing.T) {
	for _, side := range []int64{0, -1, 1, 2, 17, 1 << 32, 1 << 62, math.MaxInt64, math.MinInt64} {
		for _, wrap := range []bool{false, true} {
			for n := range 20 {
				in := borderInputsAt(2 * n)
				in.s.Wrap = wrap
				if n%3 != 1 {
					in.s.Wide = side
				}
				if n%3 != 0 {
					in.s.High = side
				}
				for _, o := range outcomesOfBorders(in) {
					is(t, fmt.Sprint(o.what, side, wrap, " fails"), o.what == "reports" && o.told == told(false) || !o.ok && o.isZero, true)
				}
			}
		}
	}
}

func TestEqualBordersHaveEqualResults(t *testing.T) {
	for n := range 1000 {
		first := outcomesOfBorders(borderInputsAt(n))
		outcomesOfBorders(borderInputsAt(n + 1))
		if second := outcomesOfBorders(borderInputsAt(n)); !slices.Equal(first, second) {
			t.Fatalf("inputs %d: got %v, then %v", n, first, second)
		}
	}
}

// roomyBorders puts all lists in arrays that have more on both sides, and
// returns a function that tells these arrays.
func roomyBorders(in borderInputs) (borderInputs, func() string) {
	var lists [][]float32
	in.sheetInputs, lists = roomyInputs(in.sheetInputs)
	slits, part := roomy(in.slits, 11)
	in.slits = part
	return in, func() string { return toldAll(lists) + told(slits) }
}

func TestBordersDoNotModifyTheirArguments(t *testing.T) {
	for n := range 600 {
		in, tell := roomyBorders(borderInputsAt(n))
		before := tell()
		outcomesOfBorders(in)
		if tell() != before {
			t.Fatalf("inputs %d have been modified", n)
		}
	}
}

// madeOfBorders returns the lists of each sheet and each field that is made.
func madeOfBorders(in borderInputs) map[string][][]float32 {
	all := map[string][][]float32{}
	sheet := func(what string) func(s impl.Sheet, ok bool) {
		return func(s impl.Sheet, ok bool) { all[what] = [][]float32{s.Speeds, s.Losses} }
	}
	field := func(what string) func(f impl.Field, ok bool) {
		return func(f impl.Field, ok bool) { all[what] = [][]float32{f.E, f.X, f.Y} }
	}
	sheet("GradeLosses")(impl.GradeLosses(in.s, in.width, in.most))
	sheet("GradeLosses by nothing")(impl.GradeLosses(in.s, 1, 0))
	field("RampField")(impl.RampField(in.s, in.f, in.width))
	sheet("FillRect")(impl.FillRect(in.s, in.r, in.speed, in.loss))
	field("ClearRect")(impl.ClearRect(in.s, in.f, in.r))
	sheet("ChannelSheet")(impl.ChannelSheet(in.s, in.from, in.to))
	sheet("ChannelSheet of all rows")(impl.ChannelSheet(in.s, 0, in.s.High-1))
	sheet("SlitSheet")(impl.SlitSheet(in.s, in.x, in.slits))
	return all
}

func TestWhatBordersReturnOwnsItsMemory(t *testing.T) {
	for _, n := range []int{0, 2} {
		in, tell := roomyBorders(borderInputsAt(n))
		first := outcomesOfBorders(in)
		for what, lists := range madeOfBorders(in) {
			for i, list := range lists {
				is(t, what+" has numbers", len(list) > 0, true)
				others := append(slices.Clone(lists[:i]), lists[i+1:]...)
				before := tell() + toldAll(others)
				room := list[:cap(list)]
				for k := range room {
					room[k] = 12345
				}
				is(t, fmt.Sprint("list ", i, " of ", what, " has its own memory"), tell()+toldAll(others) == before, true)
			}
		}
		is(t, "later results", slices.Equal(outcomesOfBorders(in), first), true)
	}
}

func TestStillCellsOwnTheirMemory(t *testing.T) {
	s := blankSheet(4, 5, true)
	list, ok := impl.StillCells(s)
	is(t, "StillCells succeeds", ok, true)
	want := slices.Clone(list)
	for i := range list[:cap(list)] {
		list[:cap(list)][i] = 12345
	}
	got, ok := impl.StillCells(s)
	isSet(t, "StillCells", got, ok, want...)
}

func TestNilIsAnEmptyListOfSlits(t *testing.T) {
	c := plainScene(3, 4, true, 0.5, 0)
	none := borderInputs{sheetInputs: sheetInputs{s: c.s, f: c.f}, r: impl.Rect{Wide: 1, High: 1}, width: 1}
	empty := none
	empty.slits = []int64{}
	is(t, "lists of no slits", slices.Equal(outcomesOfBorders(none), outcomesOfBorders(empty)), true)
	none.s.Speeds, none.s.Losses, none.f = nil, nil, impl.Field{}
	empty.s.Speeds, empty.s.Losses = []float32{}, []float32{}
	empty.f = impl.Field{E: []float32{}, X: []float32{}, Y: []float32{}}
	is(t, "lists of no numbers", slices.Equal(outcomesOfBorders(none), outcomesOfBorders(empty)), true)
}
