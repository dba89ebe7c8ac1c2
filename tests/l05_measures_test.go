package tests

import (
	"fmt"
	"math"
	"testing"

	"loop.example/g01201/impl"
)

func TestMeasuresOfTheSquareSheet(t *testing.T) {
	c := squareScene(false, map[int]float32{6: 4})
	c.f.Y[6] = 0.5
	isSumOf(t, "EnergyIn", 16.25)(impl.EnergyIn(c.s, c.f, impl.Rect{X: 1, Y: 1, Wide: 1, High: 1}))
	isSumOf(t, "FluxThrough", 2)(impl.FluxThrough(c.s, c.f, 1))
	isSumOf(t, "EdgeEnergy of the border", 0)(impl.EdgeEnergy(c.s, c.f, 1))
	isSumOf(t, "EdgeEnergy", 16)(impl.EdgeEnergy(c.s, c.f, 2))
	cost, ok := impl.SheetCost(c.s)
	is(t, "SheetCost", told(cost, ok), told(int64(98), true))
}

// measured is a field of a sheet 3 wide and 3 high with Wrap.
func measured(e, x, y []float32) scene {
	fill := func(list []float32) []float32 {
		return append(append([]float32{}, list...), make([]float32, 9-len(list))...)
	}
	return scene{blankSheet(3, 3, true), impl.Field{E: fill(e), X: fill(x), Y: fill(y)}}
}

// Each sum that is wanted here has been computed by hand. Behind the square 2 to
// the power of 54, what is not greater than 2 is lost; what is not lost decides
// how the sum with 2 to the power of 30 is narrowed.
func TestEnergiesInRects(t *testing.T) {
	type list = []float32
	whole := impl.Rect{Wide: 3, High: 3}
	for _, c := range []struct {
		what string
		c    scene
		r    impl.Rect
		want float32
	}{
		{"zeros with signs", measured(list{negativeZero}, list{negativeZero}, list{negativeZero}), whole, 0},
		{"all lists", measured(list{1, -2}, list{0, 3}, list{0, 0, 0, 0, 0, 0, 0, 0, 4}), whole, 30},
		{"one cell", measured(list{1, 2}, list{3, 4}, list{5, 6}), impl.Rect{X: 1, Wide: 1, High: 1}, 56},
		{"a row", measured(list{1, 1, 1, 2, 2, 2, 4, 4, 4}, nil, nil), impl.Rect{Y: 1, Wide: 3, High: 1}, 12},
		{"a column", measured(list{1, 2, 4, 1, 2, 4, 1, 2, 4}, nil, nil), impl.Rect{X: 2, Wide: 1, High: 3}, 48},
		{"a corner", measured(nil, list{1, 1, 1, 1, 2, 4, 1, 8, 16}, nil), impl.Rect{X: 1, Y: 1, Wide: 2, High: 2}, 340},
		{"nothing beside the rect", measured(list{7, 0, 7}, list{7, 0, 7}, list{7, 0, 7}), impl.Rect{X: 1, Wide: 1, High: 1}, 0},
		{"what 32 bits lose", measured(list{1 << 12}, list{1}, list{-1}), whole, 1<<24 + 2},
		{"the squares of a cell first", measured(list{1 << 27, 1 << 15}, list{0, 1.25}, list{0, 1.25}), whole, 1<<54 + 1<<31},
		{"squares that are lost", measured(list{1<<12 + 1}, list{0x1.4p-15}, list{0x1.4p-15}), whole, 1<<24 + 1<<13},
		{"squares that are not lost", measured(list{0x1.4p-15}, list{0x1.4p-15}, list{1<<12 + 1}), whole, 1<<24 + 1<<13 + 2},
		{"cells that are lost", measured(list{1 << 27, 1 << 15, 1, 1, 1, 1}, nil, nil), whole, 1 << 54},
		{"cells that are not lost", measured(list{1, 1, 1, 1, 1 << 27, 1 << 15}, nil, nil), whole, 1<<54 + 1<<31},
		{"rows before columns", measured(list{1, 1, 1, 1 << 27, 1 << 15, 0, 0, 0, 0}, nil, nil), whole, 1<<54 + 1<<31},
		{"squares that are too great", measured(list{1e20}, nil, nil), whole, infinity},
		{"a sum that is too great", measured(list{0x1p63, 0x1p63}, list{0x1p63}, list{0x1p63}), whole, infinity},
		{"a sum that is just not", measured(list{0x1p63}, list{0x1p63}, list{0, 0x1p63}), whole, 3 * 0x1p126},
		{"the greatest numbers", measured(repeated[float32](math.MaxFloat32, 9), nil, nil), whole, infinity},
		{"squares that are too small", measured(list{least, least}, list{0x1p-76}, nil), whole, 0},
		{"small squares together", measured(list{0x1p-75}, nil, list{0, -0x1p-75}), whole, least},
		{"an infinity", measured(nil, list{0, -infinity}, nil), whole, infinity},
		{"an infinity beside the rect", measured(nil, list{0, -infinity, 3}, nil), impl.Rect{X: 2, Wide: 1, High: 3}, 9},
		{"a not-a-number", measured(list{infinity}, nil, list{numberOf(0xff800001)}), whole, notANumber},
		{"a not-a-number beside the rect", measured(list{2, notANumber}, nil, nil), impl.Rect{Wide: 1, High: 3}, 4},
	} {
		isSumOf(t, "EnergyIn of "+c.what, c.want)(impl.EnergyIn(c.c.s, c.c.f, c.r))
	}
}

func TestFluxes(t *testing.T) {
	type list = []float32
	// column puts three numbers in the column 1.
	column := func(a, b, c float32) list { return list{9, a, 9, 9, b, 9, 9, c, 9} }
	z, inf, nan, most := negativeZero, infinity, notANumber, float32(math.MaxFloat32)
	for _, c := range []struct {
		what string
		e, y list
		want float32
	}{
		{"one row", column(0, 2, 0), column(0, 3, 0), 6},
		{"all rows", column(1, 2, 3), column(4, -5, 6), 12},
		{"the first row", column(2, 0, 0), column(-0.5, 7, 7), -1},
		{"the last row", column(0, 0, 2), column(7, 7, -0.5), -1},
		{"zeros", column(0, 0, 0), column(1, -1, 0), 0},
		{"zeros with signs", column(z, z, z), column(1, 1, 1), 0},
		{"what is lost", column(0x1p24, 1, -0x1p24), column(1, 1, 1), 0},
		{"what is not lost", column(0x1p24, -0x1p24, 1), column(1, 1, 1), 1},
		{"what is lost at the end", column(1, 1, 0x1p25), column(1, 1, 1), 0x1p25},
		{"two at first", column(1, 1, 0x1p24), column(1, 1, 1), 0x1p24 + 2},
		{"two at the end", column(0x1p24, 1, 1), column(1, 1, 1), 0x1p24},
		{"a product is rounded on its own", column(1+0x1p-12, -1, 0), column(1+0x1p-12, 1+0x1p-11, 0), 0},
		{"a product that is too great", column(most, -most, 0), column(2, 1, 0), inf},
		{"products that are too great", column(most, most, 0), column(2, -2, 0), nan},
		{"a sum that is too great", column(most, most, -most), column(1, 1, 1), inf},
		{"a sum that is just not", column(most, -most, most), column(1, 1, 1), most},
		{"products that are too small", column(0x1p-75, 0x1p-75, 0), column(0x1p-76, 0x1p-76, 0), 0},
		{"small products", column(0x1p-75, 0x1p-75, 0), column(0x1p-74, 0x1p-74, 0), 2 * least},
		{"half of the least number", column(least, 3*least, 0), column(0.5, 0.5, 0), 2 * least},
		{"an infinity", column(inf, 1, 1), column(-1, 1, 1), -inf},
		{"an infinity and a zero", column(inf, 1, 1), column(0, 1, 1), nan},
		{"infinities", column(inf, inf, 0), column(1, -1, 0), nan},
		{"a not-a-number", column(1, 1, 1), column(1, 1, nan), nan},
	} {
		s := measured(c.e, repeated[float32](100, 9), c.y)
		isSumOf(t, "FluxThrough with "+c.what, c.want)(impl.FluxThrough(s.s, s.f, 1))
	}
}

func TestEdgeEnergies(t *testing.T) {
	// Only E counts, whatever X and Y are.
	other := repeated[float32](3, 25)
	for _, c := range []struct {
		what  string
		e     map[int]float32
		width int64
		want  float32
	}{
		{"zeros with signs", map[int]float32{0: negativeZero, 12: negativeZero}, 3, 0},
		{"a corner", map[int]float32{24: -3}, 1, 9},
		{"the border alone", map[int]float32{0: 1, 4: 2, 10: 4, 22: 8, 6: 16, 12: 32}, 1, 85},
		{"a depth of 1", map[int]float32{0: 1, 6: 2, 18: 4, 12: 32}, 2, 21},
		{"all cells", map[int]float32{0: 1, 6: 2, 18: 4, 12: 32}, 3, 1045},
		{"more than all cells", map[int]float32{0: 1, 6: 2, 18: 4, 12: 32}, 4, 1045},
		{"the greatest width", map[int]float32{0: 1, 6: 2, 18: 4, 12: 32}, maxSide, 1045},
		{"what 32 bits lose", map[int]float32{0: 1 << 12, 1: 1, 2: 1}, 1, 1<<24 + 2},
		{"cells that are lost", map[int]float32{0: 1 << 27, 1: 1 << 15, 5: 1, 9: 1, 20: 1, 24: 1}, 1, 1 << 54},
		{"cells that are not lost", map[int]float32{0: 1, 1: 1, 4: 1, 5: 1, 23: 1 << 27, 24: 1 << 15}, 1, 1<<54 + 1<<31},
		{"rows before depths", map[int]float32{0: 1 << 27, 6: 1 << 15, 24: 1, 23: 1, 18: 1}, 2, 1 << 54},
		{"rows, not rings", map[int]float32{6: 1, 7: 1, 8: 1, 9: 1 << 27, 24: 1 << 15}, 2, 1<<54 + 1<<31},
		{"squares that are too great", map[int]float32{3: 1e20}, 1, infinity},
		{"a sum that is too great", map[int]float32{0: 0x1p63, 1: 0x1p63, 2: 0x1p63, 3: 0x1p63}, 1, infinity},
		{"a sum that is just not", map[int]float32{0: 0x1p63, 1: 0x1p63, 2: 0x1p63}, 1, 3 * 0x1p126},
		{"squares that are too small", map[int]float32{0: least, 4: 0x1p-76}, 1, 0},
		{"small squares together", map[int]float32{0: 0x1p-75, 24: -0x1p-75}, 1, least},
		{"an infinity", map[int]float32{0: -infinity}, 1, infinity},
		{"an infinity that is deep", map[int]float32{0: 2, 12: infinity}, 2, 4},
		{"a not-a-number", map[int]float32{0: infinity, 4: notANumber}, 1, notANumber},
		{"a not-a-number that is deep", map[int]float32{0: 2, 12: notANumber}, 2, 4},
	} {
		s := squareScene(true, c.e)
		s.f.X, s.f.Y = other, other
		isSumOf(t, "EdgeEnergy of "+c.what, c.want)(impl.EdgeEnergy(s.s, s.f, c.width))
	}
	for _, width := range []int64{1, 2, 3, maxSide} {
		s := squareScene(false, map[int]float32{6: 3, 12: 1})
		want := map[int64]float32{1: 0, 2: 9, 3: 10, maxSide: 10}[width]
		isSumOf(t, fmt.Sprint("EdgeEnergy with walls ", width), want)(impl.EdgeEnergy(s.s, s.f, width))
	}
}

// isMeasured compares all measures of a scene with what the document tells.
func isMeasured(t *testing.T, c scene, r impl.Rect, x, width int64) {
	t.Helper()
	what := fmt.Sprint(c.s.Wide, c.s.High, c.s.Wrap, r, x, width)
	isSumOf(t, "EnergyIn "+what, energyIn(c.f, cellsOf(c.s, r)))(impl.EnergyIn(c.s, c.f, r))
	isSumOf(t, "FluxThrough "+what, fluxThrough(c, x))(impl.FluxThrough(c.s, c.f, x))
	near := marksWhere(c.s, func(x, y int64) bool { return depthIn(c.s, x, y) < width })
	isSumOf(t, "EdgeEnergy "+what, heightsIn(c.f, near))(impl.EdgeEnergy(c.s, c.f, width))
}

func TestMeasuresOfAllShapes(t *testing.T) {
	source := numbers{190}
	for _, number := range someKinds {
		eachScene(191, number, func(c scene) {
			isMeasured(t, c, picked(&source, someRects(c.s)), below(&source, c.s.Wide), 1+below(&source, 4))
			isMeasured(t, c, anyRect(&source, c.s), below(&source, c.s.Wide), 1+below(&source, maxSide))
		})
	}
}

func TestMeasuresOfAllRectsAndColumns(t *testing.T) {
	source := numbers{192}
	for _, side := range [][2]int64{{3, 3}, {6, 4}, {4, 6}} {
		for _, wrap := range []bool{false, true} {
			c := anyScene(&source, side[0], side[1], wrap, ordinary)
			eachRect(c.s, func(r impl.Rect) { isMeasured(t, c, r, r.X, r.Wide) })
		}
	}
}

func TestEnergiesOfWholeSheets(t *testing.T) {
	for _, number := range []func(source *numbers) float32{smallInteger, fewBits} {
		eachScene(193, number, func(c scene) {
			whole, ok := impl.EnergyOf(c.s, c.f)
			is(t, "EnergyOf succeeds", ok, true)
			isSumOf(t, "the energy in the whole sheet", whole)(impl.EnergyIn(c.s, c.f, impl.Rect{Wide: c.s.Wide, High: c.s.High}))
			heights, ok := impl.EnergyOf(c.s, impl.Field{E: c.f.E, X: blankField(c.s).X, Y: blankField(c.s).Y})
			is(t, "EnergyOf succeeds", ok, true)
			isSumOf(t, "the energy near the edges, everywhere", heights)(impl.EdgeEnergy(c.s, c.f, maxSide))
		})
	}
}

func TestColumnsThatAreRefused(t *testing.T) {
	for _, wrap := range []bool{false, true} {
		c := plainScene(4, 5, wrap, 0.5, 0)
		for _, x := range []int64{-1, -2, -4, 4, 5, 19, 1 << 32, 1<<32 + 1, math.MaxInt64, math.MinInt64} {
			isNoSum(t, fmt.Sprint("FluxThrough ", x))(impl.FluxThrough(c.s, c.f, x))
		}
		for n, bad := range badSheets(wrap) {
			isNoSum(t, fmt.Sprint("FluxThrough of no sheet ", n))(impl.FluxThrough(bad, c.f, 0))
			isNoSum(t, fmt.Sprint("EdgeEnergy of no sheet ", n))(impl.EdgeEnergy(bad, c.f, 1))
		}
	}
}

func TestCostsOfAllShapes(t *testing.T) {
	source := numbers{194}
	eachShape(func(wide, high int64, wrap bool) {
		want := 6 * wide * high
		if !wrap {
			want = 2 * (wide*(high-1) + (wide-1)*high + (wide-2)*(high-2))
		}
		for _, s := range []impl.Sheet{blankSheet(wide, high, wrap), anySheet(&source, wide, high, wrap)} {
			got, ok := impl.SheetCost(s)
			is(t, fmt.Sprint("SheetCost ", wide, high, wrap), told(got, ok), told(want, true))
		}
	})
}

func TestCostsOfSomeSheets(t *testing.T) {
	for _, c := range []struct {
		wide, high int64
		wrap       bool
		want       int64
	}{
		{3, 3, false, 26}, {3, 3, true, 54}, {4, 3, false, 38}, {3, 4, false, 38}, {4, 3, true, 72}, {5, 5, false, 98}, {5, 5, true, 150},
		{16, 16, false, 1352}, {16, 16, true, 1536}, {16, 3, false, 182}, {3, 16, false, 182}, {16, 3, true, 288},
	} {
		got, ok := impl.SheetCost(blankSheet(c.wide, c.high, c.wrap))
		is(t, fmt.Sprintf("SheetCost %+v", c), told(got, ok), told(c.want, true))
	}
	for _, wrap := range []bool{false, true} {
		for n, bad := range badSheets(wrap) {
			got, ok := impl.SheetCost(bad)
			is(t, fmt.Sprint("SheetCost of no sheet ", n), told(got, ok), told(int64(0), false))
		}
	}
}

// digestOfBorders tells a sheet that is graded, a field that is ramped, and all
// sums of chapter 5.
func digestOfBorders(t *testing.T, c scene, most float32, r impl.Rect, width int64) digest {
	t.Helper()
	s, ok := impl.GradeLosses(c.s, width, most)
	is(t, "GradeLosses succeeds", ok, true)
	f, ok := impl.RampField(c.s, c.f, width)
	is(t, "RampField succeeds", ok, true)
	energy, ok := impl.EnergyIn(c.s, c.f, r)
	is(t, "EnergyIn succeeds", ok, true)
	all := append(append(s.Losses, f.E...), energy)
	for x := range c.s.Wide {
		flux, ok := impl.FluxThrough(c.s, c.f, x)
		is(t, "FluxThrough succeeds", ok, true)
		all = append(all, flux)
	}
	edge, ok := impl.EdgeEnergy(c.s, c.f, width)
	is(t, "EdgeEnergy succeeds", ok, true)
	got := newDigest
	for _, x := range append(all, edge) {
		got = got.with(bitsOf(x))
	}
	return got
}

// The digests are those of a second program, in another language, that follows
// the document.
func TestBordersOfASecondProgram(t *testing.T) {
	for _, c := range []struct {
		seed       uint64
		wide, high int64
		wrap       bool
		kind       string
		width      int64
		want       digest
	}{
		{220, 3, 3, false, "near", 1, 0x7bb18d673db93f63},
		{221, 3, 3, true, "near", 1, 0x0c1f6ed6f019229d},
		{222, 4, 3, false, "near", 2, 0xd2f0a90e94105195},
		{223, 3, 5, true, "near", 3, 0x7ebf36b86a3511b9},
		{224, 7, 6, false, "near", 3, 0x42761417ff55f112},
		{225, 6, 7, true, "near", 5, 0xeba36dfe4552c320},
		{226, 16, 16, false, "near", 8, 0x4038a83177ad47ab},
		{227, 16, 16, true, "near", 16, 0xf4ad732a66dde010},
		{228, 16, 3, false, "ordinary", 2, 0x459e1ee8f750861b},
		{229, 3, 16, true, "ordinary", 7, 0x35e9b856eb09bc0c},
		{230, 15, 16, false, "ordinary", 7, 0xf1e3967f4297cf30},
		{231, 16, 15, true, "ordinary", 11, 0x61d5737808cdb908},
		{232, 9, 8, false, "ordinary", 16, 0x66d1356d56d01e13},
		{233, 8, 9, true, "ordinary", 3, 0xd56fd9c3ccd7a8d0},
		{234, 5, 5, false, "special", 2, 0x0431c35029670c42},
		{235, 5, 5, true, "special", 2, 0xb13417795a45befd},
		{236, 16, 16, false, "special", 6, 0x0eb86bb3a0424a15},
		{237, 16, 16, true, "special", 13, 0xc7b2898a36660aa5},
	} {
		source := numbers{c.seed}
		from := anyScene(&source, c.wide, c.high, c.wrap, someKinds[c.kind])
		most := part(&source)
		got := digestOfBorders(t, from, most, anyRect(&source, from.s), c.width)
		is(t, fmt.Sprintf("the digest of %+v", c), got, c.want)
	}
}
