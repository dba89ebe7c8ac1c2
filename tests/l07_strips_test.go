package tests

import (
	"fmt"
	"testing"

	"loop.example/g01201/impl"
)

func TestLimitOfWorkers(t *testing.T) {
	is(t, "MaxWorkers", impl.MaxWorkers, maxWorkers)
}

func TestExamplesOfWorkers(t *testing.T) {
	s, _ := impl.PlainSheet(3, 5, false, 0.5)
	strips, ok := impl.StripsOf(s, 2)
	is(t, "5 rows and 2 workers", fmt.Sprint(strips, ok), "[{0 3} {3 2}] true")
	messages, ok := impl.MessagesOf(s, 2)
	is(t, "what 2 workers send", fmt.Sprint(messages, ok), "[[0 1 2] [1 0 3]] true")
	first, ok := impl.HaloRows(s, strips[0])
	isSet(t, "what the worker 0 needs", first, ok, 0, 1, 2, 3)
	second, ok := impl.HaloRows(s, strips[1])
	isSet(t, "what the worker 1 needs", second, ok, 2, 3, 4)
}

func TestStripsOfSomeWorkers(t *testing.T) {
	for _, c := range []struct {
		high, workers int64
		want          string
	}{
		{3, 1, "[{0 3}]"}, {16, 1, "[{0 16}]"},
		{3, 2, "[{0 2} {2 1}]"}, {5, 2, "[{0 3} {3 2}]"}, {6, 2, "[{0 3} {3 3}]"}, {7, 2, "[{0 4} {4 3}]"},
		{3, 3, "[{0 1} {1 1} {2 1}]"}, {4, 3, "[{0 2} {2 1} {3 1}]"}, {5, 3, "[{0 2} {2 2} {4 1}]"}, {6, 3, "[{0 2} {2 2} {4 2}]"},
		{3, 4, "[{0 1} {1 1} {2 1}]"}, {3, 5, "[{0 1} {1 1} {2 1}]"}, {3, 8, "[{0 1} {1 1} {2 1}]"},
		{7, 8, "[{0 1} {1 1} {2 1} {3 1} {4 1} {5 1} {6 1}]"}, {8, 8, "[{0 1} {1 1} {2 1} {3 1} {4 1} {5 1} {6 1} {7 1}]"},
		{9, 8, "[{0 2} {2 1} {3 1} {4 1} {5 1} {6 1} {7 1} {8 1}]"}, {15, 8, "[{0 2} {2 2} {4 2} {6 2} {8 2} {10 2} {12 2} {14 1}]"},
		{16, 8, "[{0 2} {2 2} {4 2} {6 2} {8 2} {10 2} {12 2} {14 2}]"}, {16, 7, "[{0 3} {3 3} {6 2} {8 2} {10 2} {12 2} {14 2}]"},
		{16, 3, "[{0 6} {6 5} {11 5}]"}, {16, 5, "[{0 4} {4 3} {7 3} {10 3} {13 3}]"}, {13, 6, "[{0 3} {3 2} {5 2} {7 2} {9 2} {11 2}]"},
	} {
		for _, wrap := range []bool{false, true} {
			got, ok := impl.StripsOf(blankSheet(4, c.high, wrap), c.workers)
			is(t, fmt.Sprint("StripsOf ", c.high, c.workers, wrap), fmt.Sprint(got, ok), c.want+" true")
		}
	}
}

func TestStripsOfAllShapes(t *testing.T) {
	eachShape(func(wide, high int64, wrap bool) {
		s := blankSheet(wide, high, wrap)
		for workers := int64(1); workers <= maxWorkers; workers++ {
			what := fmt.Sprint("StripsOf ", wide, high, wrap, workers)
			got, ok := impl.StripsOf(s, workers)
			is(t, what, fmt.Sprint(got, ok), fmt.Sprint(dealt(high, workers), true))
			next, most := int64(0), got[0].Count
			for _, p := range got {
				is(t, what+": all are strips", impl.IsStrip(s, p), true)
				is(t, what+": each begins where the one before ends", p.From, next)
				is(t, what+": the first ones have one row more at most", p.Count == most || p.Count == got[0].Count-1, true)
				next, most = p.From+p.Count, p.Count
			}
			is(t, what+": all rows are had", next, high)
			is(t, what+": how many strips", int64(len(got)), min(workers, high))
		}
	})
}

func TestStripsOfSheets(t *testing.T) {
	eachShape(func(wide, high int64, wrap bool) {
		s := blankSheet(wide, high, wrap)
		for from := int64(-2); from <= high+2; from++ {
			for count := int64(-2); count <= high+3; count++ {
				want := from >= 0 && count >= 1 && from+count <= high
				is(t, fmt.Sprint("IsStrip ", wide, high, wrap, from, count), impl.IsStrip(s, strip(from, count)), want)
			}
		}
	})
}

func TestHaloRowsOfSomeStrips(t *testing.T) {
	for _, c := range []struct {
		high          int64
		p             impl.Strip
		walls, joined []int64
	}{
		{5, strip(0, 1), []int64{0, 1}, []int64{0, 1, 4}},
		{5, strip(1, 1), []int64{0, 1, 2}, []int64{0, 1, 2}},
		{5, strip(2, 1), []int64{1, 2, 3}, []int64{1, 2, 3}},
		{5, strip(4, 1), []int64{3, 4}, []int64{0, 3, 4}},
		{5, strip(0, 2), []int64{0, 1, 2}, []int64{0, 1, 2, 4}},
		{5, strip(1, 3), []int64{0, 1, 2, 3, 4}, []int64{0, 1, 2, 3, 4}},
		{5, strip(3, 2), []int64{2, 3, 4}, []int64{0, 2, 3, 4}},
		{5, strip(0, 3), []int64{0, 1, 2, 3}, []int64{0, 1, 2, 3, 4}},
		{5, strip(0, 4), []int64{0, 1, 2, 3, 4}, []int64{0, 1, 2, 3, 4}},
		{5, strip(1, 4), []int64{0, 1, 2, 3, 4}, []int64{0, 1, 2, 3, 4}},
		{5, strip(0, 5), []int64{0, 1, 2, 3, 4}, []int64{0, 1, 2, 3, 4}},
		{3, strip(0, 1), []int64{0, 1}, []int64{0, 1, 2}},
		{3, strip(1, 1), []int64{0, 1, 2}, []int64{0, 1, 2}},
		{3, strip(2, 1), []int64{1, 2}, []int64{0, 1, 2}},
		{3, strip(0, 2), []int64{0, 1, 2}, []int64{0, 1, 2}},
		{3, strip(0, 3), []int64{0, 1, 2}, []int64{0, 1, 2}},
		{16, strip(14, 2), []int64{13, 14, 15}, []int64{0, 13, 14, 15}},
		{16, strip(0, 2), []int64{0, 1, 2}, []int64{0, 1, 2, 15}},
		{16, strip(8, 1), []int64{7, 8, 9}, []int64{7, 8, 9}},
		{16, strip(15, 1), []int64{14, 15}, []int64{0, 14, 15}},
	} {
		for _, wide := range []int64{3, 7, 16} {
			got, ok := impl.HaloRows(blankSheet(wide, c.high, false), c.p)
			isSet(t, fmt.Sprint("HaloRows with walls ", c.high, c.p), got, ok, c.walls...)
			got, ok = impl.HaloRows(blankSheet(wide, c.high, true), c.p)
			isSet(t, fmt.Sprint("HaloRows with joined edges ", c.high, c.p), got, ok, c.joined...)
		}
	}
}

func TestHaloRowsOfAllStrips(t *testing.T) {
	eachShape(func(wide, high int64, wrap bool) {
		s := blankSheet(wide, high, wrap)
		eachStrip(s, func(p impl.Strip) {
			got, ok := impl.HaloRows(s, p)
			isSet(t, fmt.Sprint("HaloRows ", wide, high, wrap, p), got, ok, needed(s, p)...)
		})
	})
}

func TestPartsOfASmallField(t *testing.T) {
	s, f := wallsToMirror()
	got, ok := impl.CutStrip(s, f, strip(1, 1))
	isField(t, "CutStrip of a row", got, ok, impl.Field{E: []float32{0, 1, 2, 0}, X: []float32{5, 6, 7, 8}, Y: []float32{4, 5, 6, 0}})
	got, ok = impl.CutStrip(s, f, strip(1, 2))
	isField(t, "CutStrip of two rows", got, ok, impl.Field{
		E: []float32{0, 1, 2, 0, 0, 0, 0, 0}, X: []float32{5, 6, 7, 8, 0, 0, 0, 0}, Y: []float32{4, 5, 6, 0, 7, 8, 9, 0},
	})
	got, ok = impl.CutStrip(s, f, strip(0, 3))
	isField(t, "CutStrip of all rows", got, ok, f)
	row := impl.Field{E: []float32{negativeZero, 5, -6, 0}, X: []float32{11, 12, 13, notANumber}, Y: []float32{14, infinity, 16, negativeZero}}
	got, ok = impl.PutStrip(s, f, strip(1, 1), row)
	isField(t, "PutStrip of a row", got, ok, impl.Field{
		E: []float32{0, 0, 0, 0, negativeZero, 5, -6, 0, 0, 0, 0, 0},
		X: []float32{1, 2, 3, 4, 11, 12, 13, notANumber, 0, 0, 0, 0},
		Y: []float32{1, 2, 3, 0, 14, infinity, 16, negativeZero, 7, 8, 9, 0},
	})
}

// Each number that is wanted here has been computed by hand.
func TestStepsOfStripsOfASmallField(t *testing.T) {
	c := plainScene(3, 5, false, 0.5, 0).with(map[int]float32{4: 2})
	for _, part := range []struct {
		p       impl.Strip
		e, x, y []float32
	}{
		{strip(0, 1), []float32{0, 0, 0}, []float32{0, -1, 0}, []float32{0, 0, 0}},
		{strip(1, 1), []float32{0, 0, 0}, []float32{0, 1, 0}, []float32{1, -1, 0}},
		{strip(2, 1), []float32{0, 0.5, 0}, []float32{0, 0, 0}, []float32{0, 0, 0}},
		{strip(3, 2), []float32{0, 0, 0, 0, 0, 0}, []float32{0, 0, 0, 0, 0, 0}, []float32{0, 0, 0, 0, 0, 0}},
		{strip(1, 2), []float32{0, 0, 0, 0, 0.5, 0}, []float32{0, 1, 0, 0, 0, 0}, []float32{1, -1, 0, 0, 0, 0}},
	} {
		got, ok := impl.StepStrip(c.s, c.f, part.p)
		isField(t, fmt.Sprint("StepStrip ", part.p), got, ok, impl.Field{E: part.e, X: part.x, Y: part.y})
	}
	c = plainScene(3, 4, true, 0.5, 0.5).with(map[int]float32{10: 8})
	for _, part := range []struct {
		p       impl.Strip
		e, x, y []float32
	}{
		{strip(0, 1), []float32{0, 2, 0}, []float32{0, 0, 0}, []float32{0, 0, 0}},
		{strip(1, 1), []float32{0, 0, 0}, []float32{0, 0, 0}, []float32{0, 0, 0}},
		{strip(2, 1), []float32{0, 2, 0}, []float32{0, -4, 0}, []float32{0, 0, 0}},
		{strip(3, 1), []float32{2, -4, 2}, []float32{0, 4, 0}, []float32{4, -4, 0}},
	} {
		got, ok := impl.StepStrip(c.s, c.f, part.p)
		isField(t, fmt.Sprint("StepStrip with joined edges ", part.p), got, ok, impl.Field{E: part.e, X: part.x, Y: part.y})
	}
}

// isStrip checks what is cut, stepped and put back of a strip.
func isStrip(t *testing.T, kind string, c scene, stepped impl.Field, p impl.Strip) {
	t.Helper()
	what := fmt.Sprint(kind, c.shape(), p)
	cut, ok := impl.CutStrip(c.s, c.f, p)
	isField(t, "CutStrip "+what, cut, ok, partOf(c.s, c.f, p))
	step, ok := impl.StepStrip(c.s, c.f, p)
	isField(t, "StepStrip "+what, step, ok, partOf(c.s, stepped, p))
	back, ok := impl.PutStrip(c.s, c.f, p, cut)
	isField(t, "PutStrip where it was cut "+what, back, ok, c.f)
	put, ok := impl.PutStrip(c.s, c.f, p, step)
	isField(t, "PutStrip of a step "+what, put, ok, withPart(c.s, c.f, p, partOf(c.s, stepped, p)))
}

func TestStripsOfFieldsOfAllShapes(t *testing.T) {
	source := numbers{299}
	for kind, number := range someKinds {
		eachScene(300, number, func(c scene) {
			stepped := c.stepped().f
			for range 2 {
				isStrip(t, kind, c, stepped, picked(&source, someStrips(c.s)))
			}
		})
	}
}

func TestAllStripsOfSomeFields(t *testing.T) {
	source := numbers{301}
	for kind, number := range someKinds {
		for _, side := range someSides {
			for _, wrap := range []bool{false, true} {
				c := anyScene(&source, side[0], side[1], wrap, number)
				stepped := c.stepped().f
				eachStrip(c.s, func(p impl.Strip) { isStrip(t, kind, c, stepped, p) })
			}
		}
	}
}

// A part that is put is not one that has been there: all numbers differ.
func TestPartsOfOtherFields(t *testing.T) {
	source := numbers{302}
	eachScene(303, near, func(c scene) {
		other := anyField(&source, c.s, special)
		for _, p := range someStrips(c.s) {
			got, ok := impl.PutStrip(c.s, c.f, p, partOf(c.s, other, p))
			isField(t, fmt.Sprint("PutStrip ", c.shape(), p), got, ok, withPart(c.s, c.f, p, partOf(c.s, other, p)))
			cut, ok := impl.CutStrip(c.s, got, p)
			isField(t, fmt.Sprint("CutStrip of what was put ", c.shape(), p), cut, ok, partOf(c.s, other, p))
		}
	})
}

// stepOf requires that a step of a strip succeeds.
func stepOf(t *testing.T, c scene, p impl.Strip) string {
	t.Helper()
	part, ok := impl.StepStrip(c.s, c.f, p)
	is(t, fmt.Sprint("StepStrip ", p, " succeeds"), ok, true)
	return told(part)
}

func TestStepsOfStripsDependOnTheirHalosAlone(t *testing.T) {
	source := numbers{304}
	for _, number := range someKinds {
		eachScene(305, number, func(c scene) {
			for _, p := range someStrips(c.s) {
				other := scene{c.s, anyField(&source, c.s, special)}
				for _, row := range needed(c.s, p) {
					other.f = withPart(c.s, other.f, strip(row, 1), partOf(c.s, c.f, strip(row, 1)))
				}
				is(t, fmt.Sprint("StepStrip ", c.shape(), p), stepOf(t, other, p), stepOf(t, c, p))
			}
		})
	}
}

// Of the row before a strip, E and X are needed, and of that behind it E alone.
func TestStepsOfStripsDependOnAllTheirHalos(t *testing.T) {
	for _, wrap := range []bool{false, true} {
		c := plainScene(4, 6, wrap, 0.5, 0)
		for _, need := range []struct {
			p              impl.Strip
			before, behind int64
			isAround       bool
		}{
			{strip(1, 1), 0, 2, false}, {strip(2, 2), 1, 4, false}, {strip(4, 1), 3, 5, false}, {strip(1, 4), 0, 5, false},
			{strip(0, 1), 5, 1, true}, {strip(5, 1), 4, 0, true}, {strip(3, 3), 2, 0, true}, {strip(0, 2), 5, 2, true}, {strip(0, 4), 5, 4, true},
		} {
			if need.isAround && !wrap {
				continue
			}
			still := stepOf(t, c, need.p)
			for k := range 3 {
				for _, row := range []int64{need.before, need.behind} {
					one := scene{c.s, copyField(c.f)}
					listsOf(one.f)[k][1+4*row] = 1
					if impl.IsField(one.s, one.f) {
						isNeeded := k == 0 || k == 1 && row == need.before
						is(t, fmt.Sprint("list ", k, " of the row ", row, " for ", need.p, wrap), stepOf(t, one, need.p) != still, isNeeded)
					}
				}
			}
		}
	}
}

func TestPartsWithOtherLengths(t *testing.T) {
	for _, wrap := range []bool{false, true} {
		c := plainScene(4, 5, wrap, 0.5, 0)
		for _, p := range someStrips(c.s) {
			n := int(4 * p.Count)
			for _, count := range []int{0, 1, 3, 4, 5, n - 4, n - 1, n + 1, n + 4, 2 * n, 20, 256, 1000} {
				if count == n {
					continue
				}
				good, bad := make([]float32, n), make([]float32, count)
				for what, part := range map[string]impl.Field{
					"E": {E: bad, X: good, Y: good}, "X": {E: good, X: bad, Y: good}, "Y": {E: good, X: good, Y: bad}, "all": {E: bad, X: bad, Y: bad},
					"E and X": {E: bad, X: bad, Y: good}, "E alone": {E: good},
				} {
					got, ok := impl.PutStrip(c.s, c.f, p, part)
					isNoField(t, fmt.Sprint("PutStrip ", p, " with ", count, " in ", what), got, ok)
				}
			}
		}
	}
}

// With walls, E of the border, X of the last row and Y of the last column are zeros
// of any sign; there is no border with joined edges.
func TestPartsThatMakeNoField(t *testing.T) {
	for _, wrap := range []bool{false, true} {
		c := plainScene(4, 5, wrap, 0.5, 0)
		for _, p := range someStrips(c.s) {
			for k := range 3 {
				for i := range 4 * p.Count {
					for _, x := range []float32{negativeZero, least, -1, infinity, notANumber} {
						part := partOf(c.s, c.f, p)
						listsOf(part)[k][i] = x
						e, below, beside := isFree(c.s, i%4, p.From+i/4)
						got, ok := impl.PutStrip(c.s, c.f, p, part)
						what := fmt.Sprint("PutStrip ", wrap, p, " with ", x, " in list ", k, " at ", i)
						if x == 0 || []bool{e, below, beside}[k] {
							isField(t, what, got, ok, withPart(c.s, c.f, p, part))
						} else {
							isNoField(t, what, got, ok)
						}
					}
				}
			}
		}
	}
}

func TestStripsThatAreRefused(t *testing.T) {
	source := numbers{306}
	for _, wrap := range []bool{false, true} {
		c := anyScene(&source, 4, 5, wrap, near)
		for _, p := range noStrips() {
			refusesStrip(t, fmt.Sprint(wrap, p), c, p)
		}
	}
}

func TestStripsRequireSheets(t *testing.T) {
	for _, wrap := range []bool{false, true} {
		for n, bad := range badSheets(wrap) {
			c := scene{bad, blankField(blankSheet(4, 5, wrap))}
			for _, p := range []impl.Strip{{}, strip(0, 1), strip(1, 1), strip(0, 5), strip(0, bad.High), strip(-1, 1)} {
				refusesStrip(t, fmt.Sprint("of no sheet ", n, p), c, p)
			}
			for workers := int64(1); workers <= maxWorkers; workers++ {
				refusesWorkers(t, fmt.Sprint("of no sheet ", n), c, workers)
			}
			refusesFieldOfWorkers(t, fmt.Sprint("of no sheet ", n), c)
		}
	}
}

func TestWorkersRequireFields(t *testing.T) {
	for n, c := range withoutField() {
		refusesFieldOfWorkers(t, fmt.Sprint("of no field ", n), scene{c.s, c.f})
	}
	for _, wrap := range []bool{false, true} {
		s := blankSheet(4, 5, wrap)
		for k := range 3 {
			for _, count := range []int{0, 1, 4, 19, 21, 256} {
				f := blankField(s)
				*[]*[]float32{&f.E, &f.X, &f.Y}[k] = make([]float32, count)
				refusesFieldOfWorkers(t, fmt.Sprint("with ", count, " in list ", k), scene{s, f})
			}
		}
	}
}
