package tests

import (
	"fmt"
	"runtime"
	"slices"
	"sync"
	"testing"

	"loop.example/g01201/impl"
)

func TestStripsMakeTheStepOfTheWholeField(t *testing.T) {
	source := numbers{360}
	for kind, number := range someKinds {
		eachScene(361, number, func(c scene) {
			want, ok := impl.StepField(c.s, c.f)
			is(t, "StepField succeeds", ok, true)
			for range 2 {
				workers := 1 + below(&source, maxWorkers)
				got, ok := impl.StepShared(c.s, c.f, workers)
				isField(t, fmt.Sprint("StepShared ", kind, c.shape(), workers), got, ok, want)
			}
		})
	}
}

func TestAllNumbersOfWorkersMakeTheStepOfTheWholeField(t *testing.T) {
	source := numbers{362}
	for kind, number := range someKinds {
		for high := int64(leastSide); high <= maxSide; high++ {
			for _, wrap := range []bool{false, true} {
				c := anyScene(&source, 3+below(&source, 14), high, wrap, number)
				isOfWorkers(t, kind, c, c.stepped().f)
			}
		}
	}
}

// What all workers make of their strips, each from the field before the step, is
// put together in any order.
func TestStepsOfStripsArePutTogether(t *testing.T) {
	source := numbers{363}
	for kind, number := range someKinds {
		eachScene(364, number, func(c scene) {
			strips, ok := impl.StripsOf(c.s, 1+below(&source, maxWorkers))
			is(t, "StripsOf succeeds", ok, true)
			made := anyField(&source, c.s, special)
			for k := range strips {
				p := strips[len(strips)-1-k]
				step, ok := impl.StepStrip(c.s, c.f, p)
				is(t, "StepStrip succeeds", ok, true)
				made, ok = impl.PutStrip(c.s, made, p, step)
				is(t, "PutStrip succeeds", ok, true)
			}
			isField(t, fmt.Sprint("strips ", kind, c.shape(), strips), made, true, c.stepped().f)
		})
	}
}

func TestRunsOfAnyNumberOfWorkersAreThoseOfOne(t *testing.T) {
	source := numbers{365}
	for _, side := range append([][2]int64{{6, 5}, {7, 9}, {4, 15}}, someSides...) {
		for _, wrap := range []bool{false, true} {
			c := anyScene(&source, side[0], side[1], wrap, picked(&source, []func(source *numbers) float32{near, ordinary, fewBits}))
			for _, steps := range []int64{0, 1, 2, 3, 4 + below(&source, maxRun-5), maxRun - 1, maxRun} {
				want := c.ran(t, steps).told()
				for workers := int64(1); workers <= maxWorkers; workers++ {
					is(t, fmt.Sprint("RunShared ", c.shape(), workers, steps), c.shared(t, workers, steps).told(), want)
				}
			}
		}
	}
}

func TestRunsOfWorkersOfAllShapes(t *testing.T) {
	source := numbers{366}
	eachShape(func(wide, high int64, wrap bool) {
		c := mildScene(&source, wide, high, wrap)
		steps, workers := 1+below(&source, 12), 1+below(&source, maxWorkers)
		is(t, fmt.Sprint("RunShared ", c.shape(), workers, steps), c.shared(t, workers, steps).told(), c.ranReference(steps).told())
	})
}

func TestRunsOfWorkersThatAreCutAnywhere(t *testing.T) {
	source := numbers{367}
	for _, wrap := range []bool{false, true} {
		c := anyScene(&source, 5, 11, wrap, near)
		whole := c.ran(t, maxRun).told()
		for steps := range int64(maxRun + 1) {
			first, second := 1+below(&source, maxWorkers), 1+below(&source, maxWorkers)
			cut := c.shared(t, first, steps).shared(t, second, maxRun-steps)
			is(t, fmt.Sprint("cut at ", steps, " for ", first, " and ", second), cut.told(), whole)
		}
	}
}

// Shared steps are those of mirrored, exchanged and shifted sheets, too, as those
// of the whole field are; strips then lie elsewhere, or across.
func TestWorkersOfMirroredFields(t *testing.T) {
	eachScene(368, near, func(c scene) {
		once := func(c scene) scene { return c.shared(t, 3, 2) }
		ran := c.ran(t, 2)
		is(t, "mirrored "+c.shape(), once(c.mirrored(t)).toldWithoutSigns(), ran.mirrored(t).toldWithoutSigns())
		is(t, "exchanged "+c.shape(), once(c.swapped(t)).toldWithoutSigns(), ran.swapped(t).toldWithoutSigns())
		if c.s.Wrap {
			is(t, "shifted "+c.shape(), once(c.shifted(t, 1, -4)).told(), ran.shifted(t, 1, -4).told())
		}
	})
}

func TestChecksOfSharedRunsAreThoseOfOne(t *testing.T) {
	source := numbers{369}
	for range 40 {
		c := mildScene(&source, 3+below(&source, 14), 3+below(&source, 14), below(&source, 2) == 0)
		workers, steps := 1+below(&source, maxWorkers), below(&source, 20)
		shared, ran := c.shared(t, workers, steps), c.ran(t, steps)
		got, ok := impl.StripChecks(shared.s, shared.f, workers)
		want, alsoOk := impl.StripChecks(ran.s, ran.f, workers)
		is(t, "StripChecks", fmt.Sprint(got, ok), fmt.Sprint(want, alsoOk))
	}
}

// The same arguments are read by many runs at the same time: none writes to them.
func TestRunsAtTheSameTime(t *testing.T) {
	source := numbers{370}
	c := anyScene(&source, 9, 13, true, near)
	want := c.ran(t, 20).told()
	made := make([]string, 24)
	var running sync.WaitGroup
	for k := range made {
		running.Add(1)
		go func() {
			defer running.Done()
			f, _ := impl.RunShared(c.s, c.f, 1+int64(k)%maxWorkers, 20)
			made[k] = scene{c.s, f}.told()
		}()
	}
	running.Wait()
	for k, got := range made {
		is(t, fmt.Sprint("the run ", k), got, want)
	}
}

// A worker that is left behind would stay for ever, so there would be thousands.
func TestNoWorkerIsLeftBehind(t *testing.T) {
	source := numbers{371}
	c := anyScene(&source, 3, 8, true, near)
	before := runtime.NumGoroutine()
	for range 200 {
		c.shared(t, maxWorkers, 2)
	}
	is(t, "how many workers are left", runtime.NumGoroutine() < before+100, true)
}

// workerInputs are arguments for all functions of chapter 7.
type workerInputs struct {
	s                    impl.Sheet
	f, part              impl.Field
	p                    impl.Strip
	workers, steps, side int64
}

// workerInputsAt are valid in one of two cases.
func workerInputsAt(n int) workerInputs {
	base := sheetInputsAt(n)
	source := numbers{uint64(n) + 1<<44}
	high := max(1, min(base.s.High, maxSide))
	in := workerInputs{
		s: base.s, f: base.f, workers: 1 + below(&source, maxWorkers), steps: below(&source, 5), side: 1 + below(&source, maxSide),
	}
	if below(&source, 30) == 0 {
		in.steps = maxRun
	}
	in.p.From = below(&source, high)
	in.p.Count = 1 + below(&source, high-in.p.From)
	if n%2 == 0 {
		in.part = partOf(in.s, base.g, in.p)
		return in
	}
	count := int(max(0, min(in.s.Wide, maxSide)) * in.p.Count)
	in.part = impl.Field{E: repeated(special(&source), count), X: make([]float32, count), Y: make([]float32, count)}
	for _, change := range []func(){
		func() { in.workers = wild(&source) },
		func() { in.steps = wild(&source) },
		func() { in.side = wild(&source) },
		func() { in.p.From = wild(&source) },
		func() { in.p.Count = wild(&source) },
		func() { in.p = picked(&source, noStrips()) },
		func() { in.part.E = wildList(&source) },
		func() { in.part.X = wildList(&source) },
		func() { in.part.Y = append(in.part.Y, 0) },
	} {
		if source.next()>>62 == 0 {
			change()
		}
	}
	return in
}

func outcomesOfWorkers(in workerInputs) []outcome {
	var all []outcome
	collect[[]impl.Strip](&all, "StripsOf")(impl.StripsOf(in.s, in.workers))
	collect[[]int64](&all, "HaloRows")(impl.HaloRows(in.s, in.p))
	collect[impl.Field](&all, "CutStrip")(impl.CutStrip(in.s, in.f, in.p))
	collect[impl.Field](&all, "StepStrip")(impl.StepStrip(in.s, in.f, in.p))
	collect[impl.Field](&all, "PutStrip")(impl.PutStrip(in.s, in.f, in.p, in.part))
	collect[impl.Field](&all, "StepShared")(impl.StepShared(in.s, in.f, in.workers))
	collect[impl.Field](&all, "RunShared")(impl.RunShared(in.s, in.f, in.workers, in.steps))
	collect[[][]int64](&all, "MessagesOf")(impl.MessagesOf(in.s, in.workers))
	collect[[]bool](&all, "SleepingBlocks")(impl.SleepingBlocks(in.s, in.f, in.side))
	f, awake, ok := impl.StepAwake(in.s, in.f, in.side)
	all = append(all, outcome{"StepAwake", told(f, awake, ok), ok, told(f, awake) == told(impl.Field{}, int64(0))})
	collect[[]int64](&all, "StripChecks")(impl.StripChecks(in.s, in.f, in.workers))
	return append(all, outcome{"reports", told(impl.IsStrip(in.s, in.p)), true, false})
}

func TestFunctionsOfWorkersReturnForAllArguments(t *testing.T) {
	succeeded, failed := map[string]int{}, map[string]int{}
	for n := range 4000 {
		for _, o := range outcomesOfWorkers(workerInputsAt(n)) {
			if o.ok {
				succeeded[o.what]++
				continue
			}
			failed[o.what]++
			is(t, fmt.Sprint(o.what, " of ", n, " fails with zero values"), o.isZero, true)
			is(t, fmt.Sprint(o.what, " of ", n, " is not valid"), n%2, 1)
		}
	}
	is(t, "how many functions succeed", len(succeeded), 12)
	for what, count := range succeeded {
		is(t, what+" succeeds and fails", count > 100 && (failed[what] > 100 || what == "reports"), true)
	}
}

func TestEqualWorkersHaveEqualResults(t *testing.T) {
	for n := range 1000 {
		first := outcomesOfWorkers(workerInputsAt(n))
		outcomesOfWorkers(workerInputsAt(n + 1))
		if second := outcomesOfWorkers(workerInputsAt(n)); !slices.Equal(first, second) {
			t.Fatalf("inputs %d: got %v, then %v", n, first, second)
		}
	}
}

// roomyWorkers puts all lists in arrays that have more on both sides, and returns
// a function that tells these arrays.
func roomyWorkers(in workerInputs) (workerInputs, func() string) {
	var arrays [][]float32
	for _, list := range []*[]float32{
		&in.s.Speeds, &in.s.Losses, &in.f.E, &in.f.X, &in.f.Y, &in.part.E, &in.part.X, &in.part.Y,
	} {
		array, own := roomy(*list, 11)
		*list = own
		arrays = append(arrays, array)
	}
	return in, func() string { return toldAll(arrays) }
}

func TestWorkersDoNotModifyTheirArguments(t *testing.T) {
	for n := range 600 {
		in, tell := roomyWorkers(workerInputsAt(n))
		before := tell()
		outcomesOfWorkers(in)
		if tell() != before {
			t.Fatalf("inputs %d have been modified", n)
		}
	}
}

// ownsField checks that writing into one of the lists of a field changes neither
// the others nor what is told.
func ownsField(t *testing.T, what string, tell func() string) func(f impl.Field, ok bool) {
	t.Helper()
	return func(f impl.Field, ok bool) {
		t.Helper()
		lists := listsOf(f)
		for k, list := range lists {
			others := [][]float32{lists[(k+1)%3], lists[(k+2)%3]}
			owns[float32](t, fmt.Sprint("list ", k, " of ", what), func() string { return tell() + toldAll(others) }, 12345)(list, ok && len(list) > 0)
		}
	}
}

func TestWhatWorkersReturnOwnsItsMemory(t *testing.T) {
	for n := 0; n < 200; n += 2 {
		in, tell := roomyWorkers(workerInputsAt(n))
		first := outcomesOfWorkers(in)
		owns[impl.Strip](t, "StripsOf", tell, strip(9, 9))(impl.StripsOf(in.s, in.workers))
		owns[int64](t, "HaloRows", tell, 12345)(impl.HaloRows(in.s, in.p))
		ownsField(t, "CutStrip", tell)(impl.CutStrip(in.s, in.f, in.p))
		ownsField(t, "CutStrip of all rows", tell)(impl.CutStrip(in.s, in.f, strip(0, in.s.High)))
		ownsField(t, "StepStrip", tell)(impl.StepStrip(in.s, in.f, in.p))
		ownsField(t, "PutStrip", tell)(impl.PutStrip(in.s, in.f, in.p, in.part))
		ownsField(t, "PutStrip of all rows", tell)(impl.PutStrip(in.s, in.f, strip(0, in.s.High), in.f))
		ownsField(t, "StepShared", tell)(impl.StepShared(in.s, in.f, in.workers))
		ownsField(t, "RunShared", tell)(impl.RunShared(in.s, in.f, in.workers, in.steps))
		ownsField(t, "RunShared of no step", tell)(impl.RunShared(in.s, in.f, 1, 0))
		owns[bool](t, "SleepingBlocks", tell, true)(impl.SleepingBlocks(in.s, in.f, in.side))
		f, _, ok := impl.StepAwake(in.s, in.f, in.side)
		ownsField(t, "StepAwake", tell)(f, ok)
		owns[int64](t, "StripChecks", tell, 12345)(impl.StripChecks(in.s, in.f, in.workers))
		is(t, "later results", slices.Equal(outcomesOfWorkers(in), first), true)
	}
}

func TestMessagesOwnTheirMemory(t *testing.T) {
	for workers := int64(2); workers <= maxWorkers; workers++ {
		s := blankSheet(3, 9, true)
		messages, ok := impl.MessagesOf(s, workers)
		is(t, "MessagesOf succeeds", ok, true)
		for k, list := range messages {
			others := append(slices.Clone(messages[:k]), messages[k+1:]...)
			owns[int64](t, fmt.Sprint("the message ", k), func() string {
				text := ""
				for _, other := range others {
					text += fmt.Sprint(other[:cap(other)])
				}
				return text
			}, 12345)(list, ok)
		}
		again, ok := impl.MessagesOf(s, workers)
		is(t, "MessagesOf again", fmt.Sprint(again, ok), fmt.Sprint(messagesOf(s, workers), true))
	}
}

func TestNilIsAnEmptyListOfParts(t *testing.T) {
	c := plainScene(3, 4, true, 0.5, 0)
	none := workerInputs{s: c.s, f: c.f, p: strip(1, 1), workers: 2, steps: 1, side: 2}
	empty := none
	empty.part = impl.Field{E: []float32{}, X: []float32{}, Y: []float32{}}
	is(t, "lists of no part", slices.Equal(outcomesOfWorkers(none), outcomesOfWorkers(empty)), true)
	none.s.Speeds, none.s.Losses, none.f = nil, nil, impl.Field{}
	empty.s.Speeds, empty.s.Losses = []float32{}, []float32{}
	empty.f = impl.Field{E: []float32{}, X: []float32{}, Y: []float32{}}
	is(t, "lists of no numbers", slices.Equal(outcomesOfWorkers(none), outcomesOfWorkers(empty)), true)
}
