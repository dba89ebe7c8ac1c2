package tests

import (
	"fmt"
	"math"
	"testing"

	"loop.example/g01201/impl"
)

func TestLimitOfSteps(t *testing.T) {
	is(t, "MaxRun", impl.MaxRun, maxRun)
}

func TestExampleOfSteps(t *testing.T) {
	s, _ := impl.PlainSheet(3, 3, false, 0.5)
	zero, _ := impl.ZeroField(s)
	f, _ := impl.PutValue(s, zero, 1, 1, 2)
	half := impl.Field{
		E: []float32{0, 0, 0, 0, 2, 0, 0, 0, 0},
		X: []float32{0, -1, 0, 0, 1, 0, 0, 0, 0},
		Y: []float32{0, 0, 0, 1, -1, 0, 0, 0, 0},
	}
	got, ok := impl.HalfStep(s, f)
	isField(t, "HalfStep", got, ok, half)
	step := copyField(half)
	step.E[4] = 0
	got, ok = impl.StepField(s, f)
	isField(t, "StepField", got, ok, step)
	value, ok := impl.ValueAt(s, got, 1, 1)
	is(t, "E in the middle", told(value, ok, got.X[1]), told(float32(0), true, float32(-1)))
	got, ok = impl.RunField(s, f, 1)
	isField(t, "RunField", got, ok, step)
}

// middle are the numbers that make a step of the only cell of a small sheet that
// is not in the border.
type middle struct{ e, above, x, left, y float32 }

func (m middle) field() impl.Field {
	var f impl.Field
	f.E, f.X, f.Y = make([]float32, 9), make([]float32, 9), make([]float32, 9)
	f.E[4], f.X[1], f.X[4], f.Y[3], f.Y[4] = m.e, m.above, m.x, m.left, m.y
	return f
}

// Each number that is wanted here has been computed by hand.
func TestStepOfTheMiddle(t *testing.T) {
	z, inf, nan, most := negativeZero, infinity, notANumber, float32(math.MaxFloat32)
	cases := []struct {
		what        string
		speed, loss float32
		from, want  middle
	}{
		{"all zero", 0.5, 0, middle{}, middle{}},
		{"X alone", 0.5, 0, middle{x: 8}, middle{-4, 0, 8, 0, 0}},
		{"X above alone", 0.5, 0, middle{above: 8}, middle{4, 8, 0, 0, 0}},
		{"Y alone", 0.25, 0, middle{y: 8}, middle{2, 0, 0, 0, 8}},
		{"Y on the left alone", 0.25, 0, middle{left: 8}, middle{-2, 0, 0, 8, 0}},
		{"all numbers", 0.5, 0.25, middle{8, 1, 2, 3, 4}, middle{-2, -3, 6, 7, 0}},
		{"a loss of 1", 0.5, 1, middle{8, 1, 2, 3, 4}, middle{-8, -3, 6, 7, 0}},
		{"a loss of 1 and a speed of 0", 0, 1, middle{8, 0, 0, 0, 0}, middle{0, -4, 4, 4, -4}},
		{"a speed of 0", 0, 0.25, middle{8, 1, 2, 3, 4}, middle{6, -3, 6, 7, 0}},
		{"no loss and a speed of 0", 0, 0, middle{-8, 1, 2, 3, 4}, middle{-8, 5, -2, -1, 8}},
		{"a speed of -0", z, z, middle{z, 0, 4, 0, 0}, middle{0, 0, 4, 0, 0}},
		{"a speed of -0 and d greater than 0", z, z, middle{z, 0, 0, 0, 4}, middle{z, 0, 0, 0, 4}},
		{"a speed of 0 and d less than 0", 0, 0, middle{z, 0, 4, 0, 0}, middle{z, 0, 4, 0, 0}},
		{"a loss of 1 and less than 0", 0, 1, middle{-8, 0, 4, 4, 0}, middle{0, 4, 0, 0, 4}},
		{"a loss of 1 and both less than 0", 0, 1, middle{-8, 0, 16, 4, 0}, middle{z, 4, 12, 0, 4}},
		// 2 to the power of 25 leaves nothing of 1.
		{"d is a difference of differences", 0.5, 0, middle{0, 0x1p25, 0x1p25, 0, 1}, middle{0.5, 0x1p25, 0x1p25, 0, 1}},
		{"d of Y before X", 0.5, 0, middle{0, 0, 1, 0x1p25, 0x1p25}, middle{-0.5, 0, 1, 0x1p25, 0x1p25}},
		{"1 less a loss is 1", 0, 0x1p-25, middle{e: 0x1p24}, middle{0x1p24, -0x1p23, 0x1p23, 0x1p23, -0x1p23}},
		{"1 less a loss is less than 1", 0, 0x1.8p-25, middle{e: 0x1p24}, middle{0x1p24 - 1, -0x1p23, 0x1p23, 0x1p23, -0x1p23}},
		{"1 less a loss is rounded on its own", 0, 0x1.4p-25, middle{e: 0x1.8p24}, middle{0x1.8p24 - 2, -0x1.8p23, 0x1.8p23, 0x1.8p23, -0x1.8p23}},
		{"half of the least number", 0.5, 0, middle{e: least}, middle{least, 0, 0, 0, 0}},
		{"half of 3 of them", 0, 0, middle{e: 3 * least}, middle{3 * least, -2 * least, 2 * least, 2 * least, -2 * least}},
		{"half of less than 0", 0, 0, middle{-least, z, z, z, z}, middle{-least, 0, z, z, 0}},
		{"the greatest number", 0.5, 0, middle{e: most}, middle{-inf, -most / 2, most / 2, most / 2, -most / 2}},
		{"the greatest number and a speed of 0", 0, 0, middle{e: most}, middle{nan, -most / 2, most / 2, most / 2, -most / 2}},
		{"too great", 0.5, 0, middle{0, most, -most, 0, 0}, middle{inf, most, -most, 0, 0}},
		{"too great, twice", 0.5, 0, middle{0, most, -most, most, -most}, middle{nan, most, -most, most, -most}},
		{"too great, and a speed of 0", 0, 0, middle{0, most, -most, 0, 0}, middle{nan, most, -most, 0, 0}},
		{"an infinity", 0.5, 0, middle{e: inf}, middle{nan, -inf, inf, inf, -inf}},
		{"an infinity that is lost", 0, 1, middle{e: inf}, middle{nan, -inf, inf, inf, -inf}},
		{"an infinite X", 0.5, 1, middle{1, 0, inf, 0, 0}, middle{-inf, -0.5, inf, 0.5, -0.5}},
		{"an infinite X and a speed of 0", 0, 0, middle{1, 0, inf, 0, 0}, middle{nan, -0.5, inf, 0.5, -0.5}},
		{"a not-a-number", 0.5, 1, middle{e: nan}, middle{nan, nan, nan, nan, nan}},
		{"Y is a not-a-number", 0, 1, middle{0, 1, 2, 3, nan}, middle{nan, 1, 2, 3, nan}},
		{"all are -0", 0.5, 0, middle{z, z, z, z, z}, middle{0, 0, z, z, 0}},
	}
	for _, c := range cases {
		s := plainScene(3, 3, false, c.speed, c.loss).s
		half := c.want
		half.e = c.from.e
		got, ok := impl.HalfStep(s, c.from.field())
		isField(t, "HalfStep of "+c.what, got, ok, half.field())
		got, ok = impl.StepField(s, c.from.field())
		isField(t, "StepField of "+c.what, got, ok, c.want.field())
	}
}

func TestStepAroundTheCorner(t *testing.T) {
	c := plainScene(4, 3, true, 0.5, 0.5).with(map[int]float32{11: 8})
	want := impl.Field{
		E: []float32{0, 0, 0, 2, 0, 0, 0, 2, 2, 0, 2, -4},
		X: []float32{0, 0, 0, 0, 0, 0, 0, -4, 0, 0, 0, 4},
		Y: []float32{0, 0, 0, 0, 0, 0, 0, 0, 0, 0, 4, -4},
	}
	got, ok := impl.StepField(c.s, c.f)
	isField(t, "StepField of the last cell", got, ok, want)
	c = plainScene(4, 3, true, 0.25, 0).with(map[int]float32{0: -8})
	want = impl.Field{
		E: []float32{-4, -1, 0, -1, -1, 0, 0, 0, -1, 0, 0, 0},
		X: []float32{-4, 0, 0, 0, 0, 0, 0, 0, 4, 0, 0, 0},
		Y: []float32{4, 0, 0, -4, 0, 0, 0, 0, 0, 0, 0, 0},
	}
	got, ok = impl.StepField(c.s, c.f)
	isField(t, "StepField of the first cell", got, ok, want)
	c = plainScene(3, 3, true, 0.5, 0).with(map[int]float32{3: math.MaxFloat32, 5: -math.MaxFloat32, 1: 1, 7: -1})
	got, ok = impl.HalfStep(c.s, c.f)
	is(t, "HalfStep of great numbers", told(got.Y[3:6], got.X[1], got.X[7], ok),
		told([]float32{-math.MaxFloat32 / 2, -math.MaxFloat32 / 2, infinity}, float32(0.5), float32(-1), true))
}

func TestStepWithWalls(t *testing.T) {
	c := plainScene(4, 3, false, 0.5, 0).with(map[int]float32{5: 8, 6: -2})
	z := negativeZero
	c.f.E[0], c.f.E[7], c.f.E[11], c.f.X[8], c.f.X[9], c.f.Y[3], c.f.Y[11] = z, z, z, z, z, z, z
	want := impl.Field{
		E: []float32{z, 0, 0, 0, 0, -0.5, 2, z, 0, 0, 0, z},
		X: []float32{0, -4, 1, 0, 0, 4, -1, 0, z, z, 0, 0},
		Y: []float32{0, 0, 0, z, 4, -5, 1, 0, 0, 0, 0, z},
	}
	got, ok := impl.StepField(c.s, c.f)
	isField(t, "StepField", got, ok, want)
}

// A zero gets the sign of d where all that is added to it is -0.
func TestSignOfTheStepOfAZero(t *testing.T) {
	c := plainScene(4, 3, false, 0.5, 0).with(map[int]float32{5: negativeZero, 6: -least})
	c.f.Y[5] = negativeZero
	got, ok := impl.StepField(c.s, c.f)
	is(t, "d is -0", told(got.E[5], got.Y[5], got.Y[4], got.X[5], got.X[1], ok), told(negativeZero, negativeZero, float32(0), float32(0), float32(0), true))
	c.f.Y[5] = 0
	got, ok = impl.StepField(c.s, c.f)
	is(t, "d is +0", told(got.E[5], got.Y[5], ok), told(float32(0), float32(0), true))
}

// isStep compares all steps of a scene with those that the document tells.
func isStep(t *testing.T, what string, c scene) {
	t.Helper()
	half, ok := impl.HalfStep(c.s, c.f)
	isField(t, "HalfStep "+what, half, ok, c.halfStepped().f)
	step, ok := impl.StepField(c.s, c.f)
	isField(t, "StepField "+what, step, ok, c.stepped().f)
	is(t, "a field behind a step", impl.IsField(c.s, half) && impl.IsField(c.s, step), true)
}

func TestStepsOfAllShapes(t *testing.T) {
	for kind, number := range someKinds {
		eachScene(60, number, func(c scene) {
			isStep(t, fmt.Sprint(kind, c.s.Wide, c.s.High, c.s.Wrap), c)
		})
	}
}

func TestStepsOfOneNumber(t *testing.T) {
	source := numbers{61}
	for _, side := range [][2]int64{{3, 3}, {4, 3}, {3, 5}} {
		for _, wrap := range []bool{false, true} {
			s := anySheet(&source, side[0], side[1], wrap)
			for k := range 3 {
				for i := range s.Speeds {
					for _, bits := range specialBits {
						c := scene{s, blankField(s)}
						listsOf(c.f)[k][i] = numberOf(bits)
						if impl.IsField(s, c.f) {
							isStep(t, fmt.Sprint(side, wrap, k, i, bits), c)
						}
					}
				}
			}
		}
	}
}

// secondRuns are runs of a second program, in another language, that follows the
// document. They are told by digests.
var secondRuns = []struct {
	seed       uint64
	wide, high int64
	wrap       bool
	kind       string
	steps      int64
	want       digest
}{
	{1, 3, 3, false, "near", 1, 0xd7f71dab351fd61a},
	{2, 3, 3, true, "near", 1, 0x5134b1845b97b9e6},
	{3, 3, 3, false, "near", 64, 0xb6cc12130f13e0c3},
	{4, 3, 3, true, "near", 64, 0xb819d5956c39af5b},
	{5, 7, 4, false, "near", 1, 0x3f8f114cca5cefdb},
	{6, 7, 4, true, "near", 1, 0x8530f5a2626f6d0b},
	{7, 4, 7, false, "near", 64, 0x5eb56279c525a17c},
	{8, 4, 7, true, "near", 64, 0x35d41a5443117d6c},
	{9, 16, 16, false, "near", 1, 0x22055556cced7846},
	{10, 16, 16, true, "near", 1, 0xf2fb49a6b767cf88},
	{11, 16, 16, false, "near", 64, 0xee4a59766e5adb0f},
	{12, 16, 16, true, "near", 64, 0x8a0bf3972fcb4ae9},
	{13, 16, 3, false, "ordinary", 2, 0x764b4eaf2eb1affe},
	{14, 3, 16, true, "ordinary", 2, 0x1b827c4b7a060737},
	{15, 5, 16, false, "ordinary", 64, 0x9e77adede44492f2},
	{16, 16, 5, true, "ordinary", 64, 0x651cb8fb05dcb619},
	{17, 6, 5, false, "special", 1, 0x36525a4a58bd0533},
	{18, 6, 5, true, "special", 1, 0x517084efa8ca601c},
	{19, 16, 16, false, "special", 1, 0xc20e111a07655e06},
	{20, 16, 16, true, "special", 1, 0xdc0413d293c42a16},
	{21, 9, 8, false, "special", 3, 0xe6bc157c01dc1788},
	{22, 9, 8, true, "special", 3, 0xc5748bb6812b06e5},
}

func TestRunsOfASecondProgram(t *testing.T) {
	for _, c := range secondRuns {
		from := anyScene(&numbers{c.seed}, c.wide, c.high, c.wrap, someKinds[c.kind])
		is(t, fmt.Sprintf("the digest of %+v", c), newDigest.withField(from.ran(t, c.steps).f), c.want)
	}
}

func TestRunsOfAllLengths(t *testing.T) {
	source := numbers{62}
	for _, side := range someSides {
		for _, wrap := range []bool{false, true} {
			from := anyScene(&source, side[0], side[1], wrap, picked(&source, []func(source *numbers) float32{near, ordinary, fewBits}))
			want := from
			for steps := range int64(maxRun + 1) {
				got, ok := impl.RunField(from.s, from.f, steps)
				isField(t, fmt.Sprint("RunField ", side, wrap, steps), got, ok, want.f)
				want = want.stepped()
			}
		}
	}
}

func TestRunsThatAreCutAnywhere(t *testing.T) {
	source := numbers{63}
	for _, wrap := range []bool{false, true} {
		c := anyScene(&source, 7, 6, wrap, near)
		whole := c.ran(t, maxRun).told()
		for steps := range int64(maxRun + 1) {
			is(t, fmt.Sprint("cut at ", steps), c.ran(t, steps).ran(t, maxRun-steps).told(), whole)
		}
		one, ok := impl.StepField(c.s, c.f)
		isField(t, "a run of one step", c.ran(t, 1).f, true, one)
		is(t, "the step succeeds", ok, true)
		is(t, "a run of no steps", c.ran(t, 0).told(), c.told())
	}
}

func TestCellsWithoutSpeedAreOnlyMadeLess(t *testing.T) {
	source := numbers{64}
	for _, wrap := range []bool{false, true} {
		c := plainScene(5, 4, wrap, 0, 0)
		c.f = anyField(&source, c.s, near)
		for i := range c.s.Losses {
			c.s.Losses[i] = picked(&source, []float32{0, 1, 0.25, part(&source)})
		}
		got := c.ran(t, 1)
		for i, x := range c.f.E {
			is(t, fmt.Sprint("E of ", i, wrap), got.f.E[i], float32(x*(1-c.s.Losses[i])))
		}
	}
}

func TestStepsThatAreRefused(t *testing.T) {
	source := numbers{65}
	for _, wrap := range []bool{false, true} {
		c := anyScene(&source, 4, 3, wrap, near)
		for _, steps := range []int64{-1, -2, 65, 66, 128, -64, 1 << 32, 1<<32 + 1, math.MaxInt64, math.MinInt64} {
			refusesSteps(t, fmt.Sprint(steps, wrap), c.s, c.f, steps)
			for _, x := range []int64{1, 4} {
				reached, ok := impl.ReachOf(c.s, x, 1, steps)
				is(t, fmt.Sprint("ReachOf ", steps, wrap), fmt.Sprint(len(reached), ok), "0 false")
			}
		}
	}
}

func TestStepsRequireFields(t *testing.T) {
	for n, c := range withoutField() {
		for _, steps := range []int64{0, 1, 3} {
			refusesSteps(t, fmt.Sprint("of no field ", n), c.s, c.f, steps)
		}
		got, ok := impl.StepField(c.s, c.f)
		isNoField(t, fmt.Sprint("StepField ", n), got, ok)
		got, ok = impl.HalfStep(c.s, c.f)
		isNoField(t, fmt.Sprint("HalfStep ", n), got, ok)
		for name, read := range map[string]func(s impl.Sheet, f impl.Field, at int64) ([]float32, bool){
			"RowOf": impl.RowOf, "ColumnOf": impl.ColumnOf,
		} {
			list, ok := read(c.s, c.f, 1)
			is(t, fmt.Sprint(name, n), fmt.Sprint(len(list), ok), "0 false")
		}
		far, ok := impl.FarCells(c.s, c.f)
		is(t, fmt.Sprint("FarCells ", n), fmt.Sprint(len(far), ok), "0 false")
	}
}
