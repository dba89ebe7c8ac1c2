package tests

import (
	"fmt"
	"math"
	"slices"
	"testing"

	"loop.example/g01201/impl"
)

const maxWorkers = 8

var (
	// noWorkers are numbers that workers do not have.
	noWorkers = []int64{0, -1, -2, -maxWorkers, maxWorkers + 1, maxWorkers + 2, 256, 1 << 32, 1<<32 + 1, math.MaxInt64, math.MinInt64}

	// noRuns are not numbers of steps.
	noRuns = []int64{-1, -2, -maxRun, maxRun + 1, maxRun + 2, 2 * maxRun, 1 << 32, 1<<32 + 1, math.MaxInt64, math.MinInt64}
)

func strip(from, count int64) impl.Strip { return impl.Strip{From: from, Count: count} }

// eachStrip does something for all strips of a sheet.
func eachStrip(s impl.Sheet, do func(p impl.Strip)) {
	for from := range s.High {
		for count := int64(1); from+count <= s.High; count++ {
			do(strip(from, count))
		}
	}
}

// someStrips are strips of one row and of more at both borders and in the middle,
// and that of all rows.
func someStrips(s impl.Sheet) []impl.Strip {
	last, half := s.High-1, s.High/2
	return []impl.Strip{
		strip(0, 1), strip(1, 1), strip(last, 1), strip(0, half), strip(half, s.High-half),
		strip(1, last-1), strip(0, last), strip(1, last), strip(0, s.High),
	}
}

// noStrips are not strips of a sheet 4 wide and 5 high; some would be if they went
// around an edge, and some if sums of their numbers became too great.
func noStrips() []impl.Strip {
	all := []impl.Strip{
		{}, strip(1, 0), strip(4, 0), strip(5, 0), strip(0, -1), strip(2, -1), strip(5, -1), strip(5, -5), strip(4, -4),
		strip(-1, 1), strip(-1, 2), strip(-1, 6), strip(-5, 5), strip(-5, 10), strip(-4, 1), strip(-16, 17),
		strip(0, 6), strip(1, 5), strip(2, 4), strip(4, 2), strip(5, 1), strip(6, 1), strip(5, 5), strip(20, 1), strip(0, 20), strip(19, 1),
	}
	for _, n := range []int64{math.MaxInt64, math.MaxInt64 - 1, math.MinInt64, math.MinInt64 + 1, 1 << 62, -1 << 62, 1 << 32, 1<<32 + 1, -1 << 32} {
		all = append(all,
			strip(n, 1), strip(n, 2), strip(0, n), strip(1, n), strip(4, n), strip(n, n), strip(n, -n), strip(n, 1-n), strip(n, 5-n), strip(n, 6-n),
			strip(-n, n), strip(1-n, n), strip(5-n, n),
		)
	}
	return all
}

// dealt divides rows among workers: it deals them out one after another, so that
// the first ones get those that are left over.
func dealt(high, workers int64) []impl.Strip {
	counts := make([]int64, workers)
	for row := range high {
		counts[row%workers]++
	}
	var strips []impl.Strip
	next := int64(0)
	for _, count := range counts {
		if count > 0 {
			strips = append(strips, strip(next, count))
		}
		next += count
	}
	return strips
}

func isOwn(p impl.Strip, row int64) bool { return row >= p.From && row < p.From+p.Count }

// needed returns the rows that are as near to a row of a strip as cells with a
// way of at most 1.
func needed(s impl.Sheet, p impl.Strip) []int64 {
	var rows []int64
	for row := range s.High {
		isNear := false
		for own := p.From; own < p.From+p.Count; own++ {
			isNear = isNear || wayOf(s, s.Wide*row, s.Wide*own) <= 1
		}
		if isNear {
			rows = append(rows, row)
		}
	}
	return rows
}

// messagesOf tells for each row that a worker needs who has it, in any order, and
// sorts this in the end.
func messagesOf(s impl.Sheet, workers int64) [][]int64 {
	strips := dealt(s.High, workers)
	var all [][]int64
	for to, p := range strips {
		for _, row := range needed(s, p) {
			from := slices.IndexFunc(strips, func(other impl.Strip) bool { return isOwn(other, row) })
			if from != to {
				all = append(all, []int64{int64(from), int64(to), row})
			}
		}
	}
	slices.SortFunc(all, slices.Compare)
	return all
}

// partOf picks the numbers of a strip row by row.
func partOf(s impl.Sheet, f impl.Field, p impl.Strip) impl.Field {
	pick := func(list []float32) []float32 {
		var own []float32
		for row := p.From; row < p.From+p.Count; row++ {
			for x := range s.Wide {
				own = append(own, list[x+s.Wide*row])
			}
		}
		return own
	}
	return impl.Field{E: pick(f.E), X: pick(f.X), Y: pick(f.Y)}
}

// withPart puts the numbers of a part where those of a strip are.
func withPart(s impl.Sheet, f impl.Field, p impl.Strip, part impl.Field) impl.Field {
	f = copyField(f)
	for k, list := range listsOf(f) {
		for i, x := range listsOf(part)[k] {
			list[int64(i)+s.Wide*p.From] = x
		}
	}
	return f
}

// sleepers tells for each block whether all that is at most one cell away is +0.
func (c scene) sleepers(side int64) []bool {
	across, down := (c.s.Wide-1)/side+1, (c.s.High-1)/side+1
	sleepers := repeated(true, int(across*down))
	eachCell(c.s, func(x, y int64) {
		for _, near := range reachedFrom(c.s, x+c.s.Wide*y, 1) {
			for _, list := range listsOf(c.f) {
				if bitsOf(list[near]) != 0 {
					sleepers[x/side+across*(y/side)] = false
				}
			}
		}
	})
	return sleepers
}

func countOf(list []bool, wanted bool) int64 {
	count := int64(0)
	for _, x := range list {
		if x == wanted {
			count++
		}
	}
	return count
}

// checksOf tells the check numbers as the document does, from texts of all rows.
func checksOf(s impl.Sheet, f impl.Field, workers int64) []int64 {
	var checks []int64
	for _, p := range dealt(s.High, workers) {
		text := ""
		for row := p.From; row < p.From+p.Count; row++ {
			for x := range s.Wide {
				if x > 0 {
					text += ","
				}
				text += wordOf(f.E[x+s.Wide*row])
			}
		}
		check := int64(0)
		for i := range len(text) {
			check = (check*677 + int64(text[i]) + 31) % 65003
		}
		checks = append(checks, check)
	}
	return checks
}

// shared requires that a run of some workers succeeds.
func (c scene) shared(t *testing.T, workers, steps int64) scene {
	t.Helper()
	f, ok := impl.RunShared(c.s, c.f, workers, steps)
	is(t, fmt.Sprint("RunShared ", workers, steps, " succeeds"), ok, true)
	return scene{c.s, f}
}

func (c scene) shape() string { return fmt.Sprint(c.s.Wide, c.s.High, c.s.Wrap) }

// isOfWorkers compares a step of all numbers of workers with a field.
func isOfWorkers(t *testing.T, what string, c scene, want impl.Field) {
	t.Helper()
	for workers := int64(1); workers <= maxWorkers; workers++ {
		got, ok := impl.StepShared(c.s, c.f, workers)
		isField(t, fmt.Sprint("StepShared ", what, c.shape(), workers), got, ok, want)
	}
}

// isAwake checks which blocks of a scene sleep, and what a step of the others makes.
func isAwake(t *testing.T, what string, c scene, side int64, sleepers []bool, want impl.Field) {
	t.Helper()
	what = fmt.Sprint(what, c.shape(), " with the side ", side)
	got, ok := impl.SleepingBlocks(c.s, c.f, side)
	is(t, "SleepingBlocks "+what, fmt.Sprint(got, ok), fmt.Sprint(sleepers, true))
	f, awake, ok := impl.StepAwake(c.s, c.f, side)
	isField(t, "StepAwake "+what, f, ok, want)
	is(t, "how many blocks are awake "+what, awake, countOf(sleepers, false))
}

func isSleeping(t *testing.T, what string, c scene, side int64, sleepers ...bool) {
	t.Helper()
	isAwake(t, what, c, side, sleepers, c.stepped().f)
}

// isNoStepAwake checks that StepAwake fails with zero values.
func isNoStepAwake(t *testing.T, what string, c scene, side int64) {
	t.Helper()
	f, awake, ok := impl.StepAwake(c.s, c.f, side)
	is(t, "StepAwake "+what, told(f, awake, ok), told(impl.Field{}, int64(0), false))
}

// refusesWorkers checks that all functions refuse a number of workers.
func refusesWorkers(t *testing.T, what string, c scene, workers int64) {
	t.Helper()
	isNone[impl.Strip](t, "StripsOf "+what)(impl.StripsOf(c.s, workers))
	isNone[[]int64](t, "MessagesOf "+what)(impl.MessagesOf(c.s, workers))
	isNone[int64](t, "StripChecks "+what)(impl.StripChecks(c.s, c.f, workers))
	isNothing[impl.Field](t, "StepShared "+what)(impl.StepShared(c.s, c.f, workers))
	for _, steps := range []int64{0, 1, maxRun} {
		isNothing[impl.Field](t, "RunShared "+what)(impl.RunShared(c.s, c.f, workers, steps))
	}
}

// refusesStrip checks that all functions with strips refuse one, also with a part
// that would fit.
func refusesStrip(t *testing.T, what string, c scene, p impl.Strip) {
	t.Helper()
	is(t, "IsStrip "+what, impl.IsStrip(c.s, p), false)
	isNone[int64](t, "HaloRows "+what)(impl.HaloRows(c.s, p))
	isNothing[impl.Field](t, "CutStrip "+what)(impl.CutStrip(c.s, c.f, p))
	isNothing[impl.Field](t, "StepStrip "+what)(impl.StepStrip(c.s, c.f, p))
	isNothing[impl.Field](t, "PutStrip of nothing "+what)(impl.PutStrip(c.s, c.f, p, impl.Field{}))
	isNothing[impl.Field](t, "PutStrip of all "+what)(impl.PutStrip(c.s, c.f, p, c.f))
	if n := c.s.Wide * p.Count; n > 0 && n <= maxCells {
		part := impl.Field{E: make([]float32, n), X: make([]float32, n), Y: make([]float32, n)}
		isNothing[impl.Field](t, "PutStrip "+what)(impl.PutStrip(c.s, c.f, p, part))
	}
}

// refusesSide checks that both functions refuse a side of blocks.
func refusesSide(t *testing.T, what string, c scene, side int64) {
	t.Helper()
	isNone[bool](t, "SleepingBlocks "+what)(impl.SleepingBlocks(c.s, c.f, side))
	isNoStepAwake(t, what, c, side)
}

// refusesFieldOfWorkers checks that all functions of chapter 7 refuse a field.
func refusesFieldOfWorkers(t *testing.T, what string, c scene) {
	t.Helper()
	for _, p := range []impl.Strip{strip(0, 1), strip(1, 1), strip(0, 3), strip(0, c.s.High)} {
		isNothing[impl.Field](t, "CutStrip "+what)(impl.CutStrip(c.s, c.f, p))
		isNothing[impl.Field](t, "StepStrip "+what)(impl.StepStrip(c.s, c.f, p))
		isNothing[impl.Field](t, "PutStrip of all "+what)(impl.PutStrip(c.s, c.f, p, c.f))
		row := repeated[float32](0, 4)
		isNothing[impl.Field](t, "PutStrip of a row "+what)(impl.PutStrip(c.s, c.f, p, impl.Field{E: row, X: row, Y: row}))
	}
	for _, workers := range []int64{1, 2, maxWorkers} {
		isNothing[impl.Field](t, "StepShared "+what)(impl.StepShared(c.s, c.f, workers))
		isNothing[impl.Field](t, "RunShared "+what)(impl.RunShared(c.s, c.f, workers, 0))
		isNothing[impl.Field](t, "RunShared "+what)(impl.RunShared(c.s, c.f, workers, 2))
		isNone[int64](t, "StripChecks "+what)(impl.StripChecks(c.s, c.f, workers))
	}
	for _, side := range []int64{1, 2, maxSide} {
		refusesSide(t, what, c, side)
	}
}
