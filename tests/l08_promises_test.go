package tests

import (
	"fmt"
	"slices"
	"testing"

	"loop.example/g01201/impl"
)

// isNearList and isNearField check that all numbers are nearly those wanted.
func isNearList(t *testing.T, what string, got, want []float32, far float64) {
	t.Helper()
	is(t, what+": how many numbers", len(got), len(want))
	for i, x := range got {
		isNear(t, fmt.Sprint(what, " at ", i), x, want[i], far)
	}
}

func isNearField(t *testing.T, what string, got, want impl.Field, far float64) {
	t.Helper()
	for k, list := range listsOf(got) {
		isNearList(t, fmt.Sprint(what, ", list ", k), list, listsOf(want)[k], far)
	}
}

// times returns a list of products.
func times(list []float32, by float32) []float32 {
	made := slices.Clone(list)
	for i := range made {
		made[i] *= by
	}
	return made
}

// swings checks the steps of a mode: its E is as many times as great as is told.
func swings(t *testing.T, s impl.Sheet, m, n int64, steps ...int64) {
	t.Helper()
	f, turns := modeFor(t, s, m, n, 1), modeTurnsFor(t, s, m, n)
	for _, k := range steps {
		ran := scene{s, f}.ran(t, k)
		what := fmt.Sprint("the mode ", m, n, " of ", s.Wide, s.High, " behind ", k)
		isNearList(t, what, ran.f.E, times(f.E, swingFor(t, turns, k)), 4e-5)
	}
}

func TestModesSwingAsTold(t *testing.T) {
	for _, side := range someSides {
		for _, speed := range []float32{0.5, 0.2} {
			s := plainSheet(side[0], side[1], false, speed)
			eachMode(func(m, n int64) { swings(t, s, m, n, 0, 1, 2, 5, 31, maxRun) })
		}
	}
	source := numbers{440}
	for range 300 {
		s := plainSheet(3+below(&source, 14), 3+below(&source, 14), false, picked(&source, fastSpeeds))
		swings(t, s, 1+below(&source, maxOrder), 1+below(&source, maxOrder), below(&source, maxRun+1))
	}
}

// A mode with any size swings as one with the size 1: steps are the same but for
// the size, where that is a power of 2.
func TestModesOfAnySizeSwing(t *testing.T) {
	source := numbers{441}
	for range 60 {
		s := plainSheet(3+below(&source, 14), 3+below(&source, 14), false, picked(&source, fastSpeeds))
		m, n, steps := 1+below(&source, maxOrder), 1+below(&source, maxOrder), below(&source, maxRun+1)
		one := scene{s, modeFor(t, s, m, n, 1)}.ran(t, steps)
		for _, size := range []float32{-1, 4, 0x1p40, -0x1p-20} {
			got := scene{s, modeFor(t, s, m, n, size)}.ran(t, steps)
			is(t, "E of another size", toldNumbers(got.f.E), toldNumbers(times(one.f.E, size)))
		}
		got := scene{s, modeFor(t, s, m, n, 0.3)}.ran(t, steps)
		isNearList(t, "E of the size 0.3", got.f.E, times(one.f.E, 0.3), 1e-5)
	}
}

// Modes that stand still stay as they are.
func TestModesStandStillWithoutSpeed(t *testing.T) {
	for _, side := range someSides {
		s := plainSheet(side[0], side[1], false, 0)
		eachMode(func(m, n int64) {
			is(t, "turns without speed", modeTurnsFor(t, s, m, n), 0)
			f := modeFor(t, s, m, n, 1)
			is(t, "E without speed", toldNumbers(scene{s, f}.ran(t, 9).f.E), toldNumbers(f.E))
		})
	}
}

// mixed returns a scene with a sum of modes of the orders 1 to 4, whose sizes are
// told by their index.
func mixed(t *testing.T, s impl.Sheet, sizes []float32) scene {
	t.Helper()
	c := scene{s, blankField(s)}
	for k, size := range sizes {
		f, ok := impl.AddFields(s, c.f, modeFor(t, s, 1+int64(k)/4, 1+int64(k)%4, size))
		is(t, "AddFields succeeds", ok, true)
		c.f = f
	}
	return c
}

func TestSharesOfSumsOfModes(t *testing.T) {
	source := numbers{442}
	for range 40 {
		s := plainSheet(6+below(&source, 11), 6+below(&source, 11), false, picked(&source, fastSpeeds))
		var sizes []float32
		for range 16 {
			sizes = append(sizes, near(&source)*4)
		}
		c, steps := mixed(t, s, sizes), 1+below(&source, maxRun)
		ran := c.ran(t, steps)
		for k, size := range sizes {
			m, n := 1+int64(k)/4, 1+int64(k)%4
			isNear(t, fmt.Sprint("the share of ", m, n), shareFor(t, c, m, n), size, 1e-5)
			swing := swingFor(t, modeTurnsFor(t, s, m, n), steps)
			isNear(t, fmt.Sprint("the share of ", m, n, " behind ", steps), shareFor(t, ran, m, n), size*swing, 3e-4)
		}
	}
}

func TestModesThatAreTakenAway(t *testing.T) {
	source := numbers{443}
	for range 40 {
		s := plainSheet(6+below(&source, 11), 6+below(&source, 11), false, 0.5)
		var sizes []float32
		for range 16 {
			sizes = append(sizes, near(&source)*4)
		}
		gone := below(&source, 16)
		c, m, n := mixed(t, s, sizes), 1+gone/4, 1+gone%4
		rest := restFor(t, c, m, n)
		isNear(t, "the share of what was taken away", shareFor(t, rest, m, n), 0, 2e-6)
		sizes[gone] = 0
		isNearField(t, "the rest", rest.f, mixed(t, s, sizes).f, 1e-5)
		for k, size := range sizes {
			isNear(t, "another share", shareFor(t, rest, 1+int64(k)/4, 1+int64(k)%4), size, 1e-5)
		}
	}
}

func TestSharesOfModesThemselves(t *testing.T) {
	for _, side := range someSides {
		s := plainSheet(side[0], side[1], false, 0.5)
		eachMode(func(m, n int64) {
			if m%(side[0]-1) == 0 || n%(side[1]-1) == 0 {
				return
			}
			for _, size := range []float32{1, -2.5, 0.1} {
				c := scene{s, modeFor(t, s, m, n, size)}
				isNear(t, fmt.Sprint("the share of itself ", side, m, n, size), shareFor(t, c, m, n), size, 3e-7)
				isNearField(t, "nothing is left", restFor(t, c, m, n).f, blankField(s), 1e-6)
			}
		})
	}
}

// What runs without a mode, runs as the field less what the mode does.
func TestRunsWithoutAMode(t *testing.T) {
	source := numbers{444}
	for range 40 {
		s := plainSheet(4+below(&source, 13), 4+below(&source, 13), false, 0.5)
		c := scene{s, blankField(s)}
		c.f.E = anyField(&source, s, near).E
		m, n, steps := 1+below(&source, 2), 1+below(&source, 2), below(&source, maxRun+1)
		mode := modeFor(t, s, m, n, shareFor(t, c, m, n))
		swing := swingFor(t, modeTurnsFor(t, s, m, n), steps)
		rest, whole := restFor(t, c, m, n).ran(t, steps), c.ran(t, steps)
		for i, x := range whole.f.E {
			isNear(t, fmt.Sprint("E at ", i), rest.f.E[i]+swing*mode.E[i], x, 1e-4)
		}
	}
}

// travels checks the steps of a wave: all its numbers are those with less turns.
func travels(t *testing.T, s impl.Sheet, m, n int64, turns float32, steps ...int64) {
	t.Helper()
	c, by := scene{s, travelFor(t, s, m, n, 1, turns)}, travelTurnsFor(t, s, m, n)
	for _, k := range steps {
		what := fmt.Sprint("the wave ", m, n, " of ", s.Wide, s.High, " behind ", k)
		isNearField(t, what, c.ran(t, k).f, travelFor(t, s, m, n, 1, turns-float32(k)*by), 1e-4)
	}
}

// eachOfManyWaves does something for waves that do not stand still.
func eachOfManyWaves(seed uint64, do func(source *numbers, s impl.Sheet, m, n int64)) {
	source := numbers{seed}
	for range 300 {
		s := plainSheet(3+below(&source, 14), 3+below(&source, 14), true, picked(&source, fastSpeeds))
		m, n := below(&source, 17)-maxOrder, below(&source, 17)-maxOrder
		if m%s.Wide != 0 || n%s.High != 0 {
			do(&source, s, m, n)
		}
	}
}

func TestWavesTravelAsTold(t *testing.T) {
	source := numbers{445}
	for _, side := range [][2]int64{{3, 3}, {4, 3}, {5, 6}, {16, 3}, {16, 16}} {
		s := plainSheet(side[0], side[1], true, 0.5)
		eachTravel(func(m, n int64) {
			if m%side[0] != 0 || n%side[1] != 0 {
				travels(t, s, m, n, near(&source), 0, 1, 2, 1+below(&source, maxRun))
			}
		})
	}
	eachOfManyWaves(450, func(source *numbers, s impl.Sheet, m, n int64) {
		travels(t, s, m, n, near(source)*2, below(source, maxRun+1))
	})
}

// A wave with more turns is one that is further on: it is shifted.
func TestWavesThatAreShifted(t *testing.T) {
	eachOfManyWaves(446, func(source *numbers, s impl.Sheet, m, n int64) {
		x, y, turns := below(source, 33)-16, below(source, 33)-16, near(source)
		shifted := scene{s, travelFor(t, s, m, n, 1, turns)}.shifted(t, -x, -y)
		more := turns + float32(float64(m*x)/float64(s.Wide)+float64(n*y)/float64(s.High))
		isNearField(t, fmt.Sprint("shifted by ", x, y), shifted.f, travelFor(t, s, m, n, 1, more), 2e-4)
	})
}

// A wave that has turned once is what it was.
func TestWavesComeBack(t *testing.T) {
	s := plainSheet(4, 4, true, 0.5)
	c := scene{s, travelFor(t, s, 2, 2, 1, 0.1)}
	is(t, "a quarter of a turn in a step", travelTurnsFor(t, s, 2, 2), 0.25)
	isNearField(t, "behind two steps", c.ran(t, 2).f, c.scaled(t, -1).f, 1e-6)
	isNearField(t, "behind four steps", c.ran(t, 4).f, c.f, 1e-6)
	isNearField(t, "behind 64 steps", c.ran(t, 64).f, c.f, 1e-5)
}

func TestRayleighNumbersOfModesTellTheirTurns(t *testing.T) {
	for _, side := range someSides {
		for _, speed := range fastSpeeds {
			s := plainSheet(side[0], side[1], false, speed)
			eachMode(func(m, n int64) {
				if m%(side[0]-1) == 0 || n%(side[1]-1) == 0 {
					return
				}
				told := rayleighTurnsFor(t, scene{s, modeFor(t, s, m, n, 2.5)})
				isNear(t, fmt.Sprint("turns of the mode ", side, m, n, speed), told, modeTurnsFor(t, s, m, n), 2e-7)
			})
		}
	}
}

func TestRayleighNumbersOfWavesTellTheirTurns(t *testing.T) {
	eachOfManyWaves(447, func(source *numbers, s impl.Sheet, m, n int64) {
		c := scene{s, travelFor(t, s, m, n, 1, 0.1)}
		told := rayleighTurnsFor(t, c)
		isNear(t, fmt.Sprint("turns of the wave ", c.shape(), m, n), told, travelTurnsFor(t, s, m, n), 1e-6)
		ran := rayleighTurnsFor(t, c.ran(t, 1+below(source, 30)))
		isNear(t, fmt.Sprint("turns behind steps ", c.shape(), m, n), ran, told, 1e-5)
	})
}

// No field has a Rayleigh number less than that of the slowest mode, nor greater
// than 4 times the speed, and one that is twice as great has the same.
func TestRayleighNumbersOfFields(t *testing.T) {
	source := numbers{448}
	for range 300 {
		s := plainSheet(3+below(&source, 14), 3+below(&source, 14), false, picked(&source, fastSpeeds))
		c := scene{s, anyField(&source, s, near)}
		r := rayleighFor(t, c)
		slowest := rayleighFor(t, scene{s, modeFor(t, s, 1, 1, 1)})
		is(t, "no less than that of the slowest mode", r > slowest-1e-6, true)
		is(t, "no greater than 4 times the speed", r <= 4*s.Speeds[0], true)
		isNumber(t, "twice as great", rayleighFor(t, c.scaled(t, 2)), r)
		isNumber(t, "the opposite", rayleighFor(t, c.scaled(t, -1)), r)
		half := scene{copySheet(s), c.f}
		half.s.Speeds = times(s.Speeds, 0.5)
		isNumber(t, "half of the speed", rayleighFor(t, half), r/2)
	}
}

func TestSlowestModesSwing(t *testing.T) {
	for _, side := range someSides {
		s := plainSheet(side[0], side[1], false, 0.5)
		modes, ok := impl.LowModes(side[0], side[1], 0.5, 16)
		is(t, "LowModes succeeds", ok, true)
		for k, mode := range modes {
			isNumber(t, "the turns of a mode", mode.Turns, modeTurnsFor(t, s, mode.M, mode.N))
			is(t, "the next one is no slower", k == 0 || modes[k-1].Turns <= mode.Turns, true)
			swings(t, s, mode.M, mode.N, 20)
		}
	}
}

// modeInputs are arguments for all functions of chapter 8.
type modeInputs struct {
	s, ring      impl.Sheet
	f            impl.Field
	m, n, a, b   int64
	wide, high   int64
	size, speed  float32
	turns, r     float32
	steps, count int64
}

// anyFinite returns any number that is finite.
func anyFinite(source *numbers) float32 {
	x := special(source)
	if x-x != 0 {
		return ordinary(source)
	}
	return x
}

// modeInputsAt are valid in one of two cases.
func modeInputsAt(n int) modeInputs {
	source := numbers{uint64(n) + 1<<45}
	side := func() int64 { return 3 + below(&source, 14) }
	order := func() int64 { return 1 + below(&source, maxOrder) }
	in := modeInputs{
		s: movingSheet(&source, side(), side(), false), ring: plainSheet(side(), side(), true, (1-part(&source))/2),
		m: order(), n: order(), a: order() * picked(&source, []int64{1, -1}), b: below(&source, 17) - maxOrder,
		wide: side(), high: side(), size: anyFinite(&source), speed: part(&source) / 2,
		turns: anyTurns(&source), r: part(&source) * 4, steps: below(&source, maxTicks+1), count: below(&source, 17),
	}
	in.f = anyField(&source, in.s, picked(&source, []func(source *numbers) float32{near, ordinary, special}))
	if n%2 == 0 {
		return in
	}
	for _, change := range []func(){
		func() { in.s.Wrap, in.ring.Wrap = true, false },
		func() { in.s.Wide, in.ring.Wide = picked(&source, someCounts), picked(&source, someCounts) },
		func() { in.s.Speeds, in.ring.Losses = wildList(&source), wildList(&source) },
		func() { in.s.Speeds[below(&source, 9)], in.ring.Speeds[below(&source, 9)] = special(&source), 0 },
		func() { in.f.E = wildList(&source) },
		func() { in.f.Y = wildList(&source) },
		func() { in.m, in.a = wild(&source), wild(&source) },
		func() { in.n, in.b = wild(&source), wild(&source) },
		func() { in.a, in.b = 0, 0 },
		func() { in.wide = wild(&source) },
		func() { in.high = picked(&source, noBoxSides) },
		func() { in.size, in.speed = special(&source), special(&source) },
		func() { in.turns, in.r = special(&source), special(&source) },
		func() { in.steps, in.count = wild(&source), wild(&source) },
	} {
		if source.next()>>62 == 0 && len(in.s.Speeds) >= 9 {
			change()
		}
	}
	return in
}

func outcomesOfModes(in modeInputs) []outcome {
	var all []outcome
	collect[impl.Field](&all, "ModeField")(impl.ModeField(in.s, in.m, in.n, in.size))
	collect[float32](&all, "ModeTurns")(impl.ModeTurns(in.wide, in.high, in.m, in.n, in.speed))
	collect[float32](&all, "SwingOf")(impl.SwingOf(in.turns, in.steps))
	modes, ok := impl.LowModes(in.wide, in.high, in.speed, in.count)
	all = append(all, outcome{"LowModes", toldModes(modes, ok), ok, len(modes) == 0})
	collect[float32](&all, "ShareOf")(impl.ShareOf(in.s, in.f, in.m, in.n))
	collect[impl.Field](&all, "WithoutMode")(impl.WithoutMode(in.s, in.f, in.m, in.n))
	collect[float32](&all, "TravelTurns")(impl.TravelTurns(in.wide, in.high, in.a, in.b, in.speed))
	collect[impl.Field](&all, "TravelField")(impl.TravelField(in.ring, in.a, in.b, in.size, in.turns))
	collect[float32](&all, "RayleighOf")(impl.RayleighOf(in.s, in.f))
	collect[float32](&all, "TurnsOfRayleigh")(impl.TurnsOfRayleigh(in.r))
	return all
}

// canBeMissing are functions whose result can be missing in spite of valid arguments.
var canBeMissing = []string{"SwingOf", "ShareOf", "WithoutMode", "TravelField", "RayleighOf"}

func TestFunctionsOfModesReturnForAllArguments(t *testing.T) {
	succeeded, failed := map[string]int{}, map[string]int{}
	for n := range 4000 {
		for _, o := range outcomesOfModes(modeInputsAt(n)) {
			if o.ok {
				succeeded[o.what]++
				continue
			}
			failed[o.what]++
			is(t, fmt.Sprint(o.what, " of ", n, " fails with zero values"), o.isZero, true)
			is(t, fmt.Sprint(o.what, " of ", n, " is not valid"), n%2 == 1 || slices.Contains(canBeMissing, o.what), true)
		}
	}
	is(t, "how many functions succeed", len(succeeded), 10)
	for what, count := range succeeded {
		is(t, what+" succeeds and fails", count > 100 && failed[what] > 100, true)
	}
}

func TestEqualModesHaveEqualResults(t *testing.T) {
	for n := range 1000 {
		first := outcomesOfModes(modeInputsAt(n))
		outcomesOfModes(modeInputsAt(n + 1))
		if second := outcomesOfModes(modeInputsAt(n)); !slices.Equal(first, second) {
			t.Fatalf("inputs %d: got %v, then %v", n, first, second)
		}
	}
}

// roomyModes puts all lists in arrays that have more on both sides, and returns a
// function that tells these arrays.
func roomyModes(in modeInputs) (modeInputs, func() string) {
	var arrays [][]float32
	for _, list := range []*[]float32{
		&in.s.Speeds, &in.s.Losses, &in.ring.Speeds, &in.ring.Losses, &in.f.E, &in.f.X, &in.f.Y,
	} {
		array, own := roomy(*list, 11)
		*list = own
		arrays = append(arrays, array)
	}
	return in, func() string { return toldAll(arrays) }
}

func TestModesDoNotModifyTheirArguments(t *testing.T) {
	for n := range 600 {
		in, tell := roomyModes(modeInputsAt(n))
		before := tell()
		outcomesOfModes(in)
		if tell() != before {
			t.Fatalf("inputs %d have been modified", n)
		}
	}
}

func TestWhatModesReturnOwnsItsMemory(t *testing.T) {
	for n := 0; n < 100; n += 2 {
		in := modeInputsAt(n)
		in.f, in.m, in.n, in.count = anyField(&numbers{uint64(n)}, in.s, near), 1, 1, 1+int64(n)%16
		in, tell := roomyModes(in)
		first := outcomesOfModes(in)
		ownsField(t, "ModeField", tell)(impl.ModeField(in.s, in.m, in.n, in.size))
		ownsField(t, "WithoutMode", tell)(impl.WithoutMode(in.s, in.f, in.m, in.n))
		ownsField(t, "TravelField", tell)(impl.TravelField(in.ring, 1, 1, in.size, in.turns))
		owns[impl.Mode](t, "LowModes", tell, impl.Mode{M: 9, N: 9, Turns: 9})(impl.LowModes(in.wide, in.high, in.speed, in.count))
		is(t, "later results", slices.Equal(outcomesOfModes(in), first), true)
	}
}

func TestNilIsAnEmptyListOfModes(t *testing.T) {
	none := modeInputs{
		s: impl.Sheet{Wide: 3, High: 3}, ring: impl.Sheet{Wide: 3, High: 3, Wrap: true},
		m: 1, n: 1, a: 1, b: 1, wide: 3, high: 3, size: 1, speed: 0.5,
	}
	empty := none
	for _, list := range []*[]float32{
		&empty.s.Speeds, &empty.s.Losses, &empty.ring.Speeds, &empty.ring.Losses, &empty.f.E, &empty.f.X, &empty.f.Y,
	} {
		*list = []float32{}
	}
	is(t, "lists of no numbers", slices.Equal(outcomesOfModes(none), outcomesOfModes(empty)), true)
}
