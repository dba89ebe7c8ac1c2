package tests

import (
	"fmt"
	"math"
	"testing"

	"loop.example/g01201/impl"
)

const maxOrder = 8

var (
	// noOrders are those of neither modes nor waves.
	noOrders = []int64{
		maxOrder + 1, maxOrder + 2, -maxOrder - 1, -maxOrder - 2, 16, -16, 256, 1 << 32, 1<<32 + 1, -1 << 32,
		1 << 62, 1<<62 + 1, math.MaxInt64, math.MinInt64, math.MinInt64 + 1,
	}

	// noBoxSides are not sides of sheets; some would be if they became too great
	// once they are multiplied by 2 or 4.
	noBoxSides = []int64{
		2, 1, 0, -1, -3, -16, 17, 18, 256, 1 << 32, 1<<32 + 3, 1<<61 + 4, 1 << 62, 1<<62 + 3, 1<<62 + 5, 1<<63 - 1 - 1<<62,
		math.MaxInt64, math.MinInt64, math.MinInt64 + 4,
	}

	notFinite = append([]float32{infinity, -infinity}, someNotANumbers...)

	fastSpeeds = []float32{0.5, 0.25, 0.1, 0.375, 0.49999997}

	someSizes = []float32{1, -1, 2.5, least, -3 * least, 0, negativeZero, math.MaxFloat32, -math.MaxFloat32, 0.1, 0x1p-126, 1000.5}
)

// eachMode does something for all orders of modes.
func eachMode(do func(m, n int64)) {
	for m := int64(1); m <= maxOrder; m++ {
		for n := int64(1); n <= maxOrder; n++ {
			do(m, n)
		}
	}
}

// eachTravel does something for all orders of waves that travel.
func eachTravel(do func(m, n int64)) {
	for m := int64(-maxOrder); m <= maxOrder; m++ {
		for n := int64(-maxOrder); n <= maxOrder; n++ {
			if m != 0 || n != 0 {
				do(m, n)
			}
		}
	}
}

// plainSheet returns a sheet with one speed and no losses.
func plainSheet(wide, high int64, wrap bool, speed float32) impl.Sheet {
	return plainScene(wide, high, wrap, speed, 0).s
}

// movingSheet returns a sheet whose cells differ, and all of which have a speed.
func movingSheet(source *numbers, wide, high int64, wrap bool) impl.Sheet {
	s := blankSheet(wide, high, wrap)
	for i := range s.Speeds {
		s.Speeds[i] = picked(source, []float32{0.5, least, (1 - part(source)) / 2, (1 - part(source)) / 2})
		s.Losses[i] = part(source)
	}
	return s
}

// quotient is that of two integers as 32-bit numbers.
func quotient(a, b int64) float32 { return float32(a) / float32(b) }

// modeOf makes the field of a mode as the document tells.
func modeOf(s impl.Sheet, m, n int64, size float32) impl.Field {
	f := blankField(s)
	for y := int64(1); y < s.High-1; y++ {
		for x := int64(1); x < s.Wide-1; x++ {
			e := float32(size * impl.SineTurns(quotient(m*x, 2*(s.Wide-1))))
			f.E[x+s.Wide*y] = float32(e * impl.SineTurns(quotient(n*y, 2*(s.High-1))))
		}
	}
	return f
}

// turnsOf tells the turns in a step from the sines u and v.
func turnsOf(u, v, speed float32) float32 {
	uu, vv := float32(u*u), float32(v*v)
	sum := uu + vv
	half := float32(0.5 * speed)
	w := float32(half * sum)
	q, p := float32(math.Sqrt(float64(w))), float32(math.Sqrt(float64(1-w)))
	return 2 * impl.AngleTurns(q, p)
}

func modeTurnsOf(wide, high, m, n int64, speed float32) float32 {
	return turnsOf(impl.SineTurns(quotient(m, 4*(wide-1))), impl.SineTurns(quotient(n, 4*(high-1))), speed)
}

func travelTurnsOf(wide, high, m, n int64, speed float32) float32 {
	return turnsOf(impl.SineTurns(quotient(m, 2*wide)), impl.SineTurns(quotient(n, 2*high)), speed)
}

// swingOf tells how great a mode is as the document does.
func swingOf(turns float32, steps int64) (float32, bool) {
	behind := float64(turns) * (float64(steps) + 0.5)
	first := float64(turns) / 2
	quotient := impl.SineTurns(float32(0.25+behind)) / impl.SineTurns(float32(0.25+first))
	if quotient-quotient != 0 {
		return 0, false
	}
	return quotient, true
}

// shareOf tells the share of a mode as the document does.
func shareOf(c scene, m, n int64) (float32, bool) {
	products, squares := 0.0, 0.0
	for i, x := range modeOf(c.s, m, n, 1).E {
		products += float64(c.f.E[i]) * float64(x)
		squares += float64(x) * float64(x)
	}
	if squares == 0 {
		return 0, false
	}
	return float32(products / squares), true
}

// withoutMode takes a mode away as the document tells.
func (c scene) withoutMode(m, n int64) (impl.Field, bool) {
	share, ok := shareOf(c, m, n)
	if !ok {
		return impl.Field{}, false
	}
	f := copyField(c.f)
	for i, x := range modeOf(c.s, m, n, 1).E {
		f.E[i] -= float32(share * x)
	}
	for i, x := range f.E {
		free, _, _ := isFree(c.s, int64(i)%c.s.Wide, int64(i)/c.s.Wide)
		if !free && x != 0 {
			return impl.Field{}, false
		}
	}
	return f, true
}

// travelOf makes the field of a wave that travels as the document tells.
func travelOf(s impl.Sheet, m, n int64, size, turns float32) (impl.Field, bool) {
	a, b := quotient(m, s.Wide), quotient(n, s.High)
	half := travelTurnsOf(s.Wide, s.High, m, n, s.Speeds[0]) / 2
	g := impl.SineTurns(half)
	if g == 0 {
		return impl.Field{}, false
	}
	r := float32(size*impl.SineTurns(b/2)) / (2 * g)
	t := float32(size*impl.SineTurns(a/2)) / (2 * g)
	f := blankField(s)
	eachCell(s, func(x, y int64) {
		ax, by := float32(a*float32(x)), float32(b*float32(y))
		ahead, below := float32(a*(float32(x)+0.5)), float32(b*(float32(y)+0.5))
		e := ax + by
		e += turns
		xs := ax + below
		xs += turns
		xs += half
		ys := ahead + by
		ys += turns
		ys += half
		i := x + s.Wide*y
		f.E[i] = float32(size * impl.SineTurns(e))
		f.X[i] = float32(r * impl.SineTurns(xs))
		f.Y[i] = -float32(t * impl.SineTurns(ys))
	})
	return f, true
}

// rayleighOf tells the quotient of both energies as the document does, for a
// sheet with speeds.
func rayleighOf(c scene) (float32, bool) {
	sum := 0.0
	add := func(i, next int64) {
		d := float64(c.f.E[next]) - float64(c.f.E[i])
		sum += float64(d * d)
	}
	wide, high := c.s.Wide, c.s.High
	eachCell(c.s, func(x, y int64) {
		if c.s.Wrap || y < high-1 {
			add(x+wide*y, x+wide*((y+1)%high))
		}
	})
	eachCell(c.s, func(x, y int64) {
		if c.s.Wrap || x < wide-1 {
			add(x+wide*y, (x+1)%wide+wide*y)
		}
	})
	whole := 0.0
	for i, x := range c.f.E {
		whole += float64(float64(x)*float64(x)) / float64(c.s.Speeds[i])
	}
	if !(whole > 0) {
		return 0, false
	}
	return float32(sum / 2 / whole), true
}

// isResult checks what a function returns, or that it fails, as toldTwo tells.
func isResult[T any](t *testing.T, what, want string) func(got T, ok bool) {
	t.Helper()
	return func(got T, ok bool) {
		t.Helper()
		is(t, what, told(got, ok), want)
	}
}

// succeeds requires that a function does not fail.
func succeeds[T any](t *testing.T, what ...any) func(x T, ok bool) T {
	t.Helper()
	return func(x T, ok bool) T {
		t.Helper()
		is(t, fmt.Sprint(append(what, " succeeds")...), ok, true)
		return x
	}
}

func modeFor(t *testing.T, s impl.Sheet, m, n int64, size float32) impl.Field {
	t.Helper()
	return succeeds[impl.Field](t, "ModeField ", m, n, size)(impl.ModeField(s, m, n, size))
}

func modeTurnsFor(t *testing.T, s impl.Sheet, m, n int64) float32 {
	t.Helper()
	return succeeds[float32](t, "ModeTurns ", m, n)(impl.ModeTurns(s.Wide, s.High, m, n, s.Speeds[0]))
}

func swingFor(t *testing.T, turns float32, steps int64) float32 {
	t.Helper()
	return succeeds[float32](t, "SwingOf ", turns, steps)(impl.SwingOf(turns, steps))
}

func shareFor(t *testing.T, c scene, m, n int64) float32 {
	t.Helper()
	return succeeds[float32](t, "ShareOf ", m, n)(impl.ShareOf(c.s, c.f, m, n))
}

func restFor(t *testing.T, c scene, m, n int64) scene {
	t.Helper()
	return scene{c.s, succeeds[impl.Field](t, "WithoutMode ", m, n)(impl.WithoutMode(c.s, c.f, m, n))}
}

func travelFor(t *testing.T, s impl.Sheet, m, n int64, size, turns float32) impl.Field {
	t.Helper()
	return succeeds[impl.Field](t, "TravelField ", s.Wide, s.High, m, n, size, turns)(impl.TravelField(s, m, n, size, turns))
}

func travelTurnsFor(t *testing.T, s impl.Sheet, m, n int64) float32 {
	t.Helper()
	return succeeds[float32](t, "TravelTurns ", m, n)(impl.TravelTurns(s.Wide, s.High, m, n, s.Speeds[0]))
}

func rayleighFor(t *testing.T, c scene) float32 {
	t.Helper()
	return succeeds[float32](t, "RayleighOf")(impl.RayleighOf(c.s, c.f))
}

func rayleighTurnsFor(t *testing.T, c scene) float32 {
	t.Helper()
	return succeeds[float32](t, "TurnsOfRayleigh")(impl.TurnsOfRayleigh(rayleighFor(t, c)))
}

// refusesModes checks that all functions with modes of a sheet refuse a sheet with
// a field or orders.
func refusesModes(t *testing.T, what string, c scene, m, n int64) {
	t.Helper()
	what = fmt.Sprint(what, " ", m, n)
	isNothing[impl.Field](t, "ModeField "+what)(impl.ModeField(c.s, m, n, 1))
	refusesShares(t, what, c, m, n)
}

// refusesShares checks that both functions with shares fail.
func refusesShares(t *testing.T, what string, c scene, m, n int64) {
	t.Helper()
	isNothing[float32](t, "ShareOf "+what)(impl.ShareOf(c.s, c.f, m, n))
	isNothing[impl.Field](t, "WithoutMode "+what)(impl.WithoutMode(c.s, c.f, m, n))
}

func (d digest) withOutcome(x float32, ok bool) digest {
	if !ok {
		return d.with(0xffffffff)
	}
	return d.with(bitsOf(x))
}

func (d digest) withMade(f impl.Field, ok bool) digest {
	if !ok {
		return d.with(0xffffffff)
	}
	return d.withField(f)
}
