package tests

import (
	"fmt"
	"math"
	"slices"
	"testing"

	"loop.example/g01201/impl"
)

// rowScene is a sheet 3 high with numbers of E in the only row that is not in the
// border.
func rowScene(inner ...float32) scene {
	c := plainScene(int64(len(inner))+2, 3, false, 0.5, 0)
	copy(c.f.E[len(inner)+3:], inner)
	return c
}

// turned is a scene with the rows of another one as columns.
func turned(c scene) scene {
	made := plainScene(c.s.High, c.s.Wide, c.s.Wrap, 0.5, 0)
	eachCell(c.s, func(x, y int64) { made.f.E[y+c.s.High*x] = c.f.E[x+c.s.Wide*y] })
	return made
}

// isShare checks the share of a mode of the order m along x and 1 along y, also
// with rows as columns.
func isShare(t *testing.T, c scene, m int64, want float32) {
	t.Helper()
	what := fmt.Sprint("ShareOf ", c.f.E, " ", m)
	isSumOf(t, what, want)(impl.ShareOf(c.s, c.f, m, 1))
	isSumOf(t, what+", columns", want)(impl.ShareOf(turned(c).s, turned(c).f, 1, m))
}

// Each number that is wanted here has been found by hand. A mode of the sheet 5
// wide has h, 1 and h, and the sum of their squares is nearly 2, but less.
func TestShares(t *testing.T) {
	h, z, most := numberOf(0x3f3504f3), negativeZero, float32(math.MaxFloat32)
	for _, x := range []float32{0, 1, -2.5, least, -least, most, -most, infinity, -infinity, notANumber} {
		isShare(t, rowScene(x), 1, x)
		isShare(t, rowScene(x), 3, 0-x)
		isShare(t, rowScene(x), 5, x)
		isShare(t, rowScene(x), 7, 0-x)
	}
	isShare(t, rowScene(z), 1, 0)
	isShare(t, rowScene(z), 3, 0)
	isShare(t, rowScene(z, z, z), 1, 0)
	isShare(t, rowScene(0, 1, 0), 1, 0.5)
	isShare(t, rowScene(0, -8, 0), 1, -4)
	isShare(t, rowScene(1, 0, -1), 1, 0)
	isShare(t, rowScene(h, 1, h), 1, 1)
	isShare(t, rowScene(-2*h, -2, -2*h), 1, -2)
	isShare(t, rowScene(1, 2, 3), 2, -1)
	isShare(t, rowScene(1, 0, -1), 2, 1)
	isShare(t, rowScene(1, 5, 1), 2, 0)
	isShare(t, rowScene(-h, 1, -h), 3, -1)
	isShare(t, rowScene(1, 0, -1), 6, -1)
}

// Sums are those of 64-bit numbers, in order.
func TestSharesOf64BitNumbers(t *testing.T) {
	most := float32(math.MaxFloat32)
	isShare(t, rowScene(1<<30, 1, -1<<30), 1, 0.5)
	isShare(t, rowScene(1e30, 1, -1e30), 1, 0)
	isShare(t, rowScene(1e30, 0, 1), 2, float32(1e30)/2)
	isShare(t, rowScene(0, least, 0), 1, least)
	isShare(t, rowScene(0, 3*least, 0), 1, 2*least)
	isShare(t, rowScene(0, -least, 0), 1, -least)
	isShare(t, rowScene(least, 0, 0), 2, 0)
	isShare(t, rowScene(0, 0, least), 2, negativeZero)
	isShare(t, rowScene(most, most, most), 1, infinity)
	isShare(t, rowScene(-most, -most, -most), 1, -infinity)
	isShare(t, rowScene(most, most, -most), 2, most)
	isShare(t, rowScene(most, most, -most), 6, -most)
}

func TestSharesOfWhatIsNotFinite(t *testing.T) {
	inf := infinity
	isShare(t, rowScene(inf, 0, 0), 1, inf)
	isShare(t, rowScene(0, -inf, 0), 1, -inf)
	isShare(t, rowScene(inf, 0, -inf), 1, notANumber)
	isShare(t, rowScene(inf, 0, -inf), 2, inf)
	isShare(t, rowScene(0, inf, 0), 2, notANumber)
	isShare(t, rowScene(notANumber, 0, 0), 1, notANumber)
	for _, x := range notFinite {
		for m := int64(1); m <= maxOrder; m++ {
			for _, c := range []scene{rowScene(x, 1, 2), rowScene(1, x, 2), rowScene(1, 2, x)} {
				if m%4 != 0 {
					isNothing[impl.Field](t, "WithoutMode")(impl.WithoutMode(c.s, c.f, m, 1))
				}
			}
		}
	}
}

// Only numbers of E have a part in it, and neither speeds nor losses do.
func TestSharesOfEAlone(t *testing.T) {
	source := numbers{410}
	for range 40 {
		c := scene{anySheet(&source, 6, 5, false), impl.Field{}}
		c.f = anyField(&source, c.s, near)
		share := shareFor(t, c, 2, 3)
		other := scene{anySheet(&source, 6, 5, false), anyField(&source, c.s, special)}
		other.f.E = c.f.E
		isNumber(t, "the share of E", shareFor(t, other, 2, 3), share)
	}
}

// isRest checks what WithoutMode leaves in the only row that is not in the border.
func isRest(t *testing.T, c scene, m int64, want ...float32) {
	t.Helper()
	f := copyField(c.f)
	copy(f.E[c.s.Wide+1:], want)
	got, ok := impl.WithoutMode(c.s, c.f, m, 1)
	isField(t, fmt.Sprint("WithoutMode ", c.f.E, " ", m), got, ok, f)
}

func TestRests(t *testing.T) {
	h, z, most := numberOf(0x3f3504f3), negativeZero, float32(math.MaxFloat32)
	for _, x := range []float32{0, 1, 2.5, least, 0.1, most} {
		isRest(t, rowScene(x), 1, 0)
		isRest(t, rowScene(x, 0, -x), 2, 0, 0, 0)
	}
	isRest(t, rowScene(z), 1, z)
	isRest(t, rowScene(z), 3, 0)
	isRest(t, rowScene(h, 1, h), 1, 0, 0, 0)
	isRest(t, rowScene(0, 1, 0), 1, -h/2, 0.5, -h/2)
	isRest(t, rowScene(1, 0, -1), 1, 1, 0, -1)
	isRest(t, rowScene(1, 5, 1), 2, 1, 5, 1)
	isRest(t, rowScene(3, 5, 1), 2, 2, 5, 2)
	isRest(t, rowScene(0, least, 0), 1, -least, 0, -least)
	isRest(t, rowScene(0, 3*least, 0), 1, -least, least, -least)
	isRest(t, rowScene(1<<30, 1, -1<<30), 1, 1<<30, 0.5, -1<<30)
	isRest(t, rowScene(most, 1, -most), 2, 0, 1, 0)
}

// Where the mode has +0, a share that is negative makes -0 to +0.
func TestSignsOfZerosWithoutAMode(t *testing.T) {
	z := negativeZero
	for _, c := range []struct{ middle, border, want float32 }{
		{5, 0, 0}, {5, z, z}, {-5, 0, 0}, {-5, z, 0}, {0, 0, 0}, {0, z, z}, {z, z, z},
	} {
		all := plainScene(3, 3, false, 0.5, 0)
		all.f.E = repeated(c.border, 9)
		all.f.E[4] = c.middle
		want := copyField(all.f)
		want.E = repeated(c.want, 9)
		want.E[4] = 0
		if c.middle == 0 {
			want.E[4] = c.middle
		}
		got, ok := impl.WithoutMode(all.s, all.f, 1, 1)
		isField(t, fmt.Sprint("WithoutMode ", all.f.E), got, ok, want)
	}
}

// A share that becomes too great takes away not-a-numbers from the border.
func TestRestsThatAreNoFields(t *testing.T) {
	most := float32(math.MaxFloat32)
	for _, c := range []scene{rowScene(most, most, most), rowScene(-most, -most, -most), rowScene(most, most)} {
		share := shareFor(t, c, 1, 1)
		is(t, "the share is infinite", share > most || share < -most, true)
		isNothing[impl.Field](t, "WithoutMode")(impl.WithoutMode(c.s, c.f, 1, 1))
	}
}

func TestNumbersOfXAndYStayWithoutAMode(t *testing.T) {
	source := numbers{411}
	for range 40 {
		s := anySheet(&source, 5, 6, false)
		c := scene{s, anyField(&source, s, special)}
		c.f.E = anyField(&source, s, near).E
		got, ok := impl.WithoutMode(c.s, c.f, 1, 2)
		is(t, "X and Y", told(got.X, got.Y, ok), told(c.f.X, c.f.Y, true))
	}
}

// Modes all of whose numbers are zeros have no shares.
func TestSharesOfNothing(t *testing.T) {
	for _, side := range someSides {
		c := plainScene(side[0], side[1], false, 0.5, 0)
		eachMode(func(m, n int64) {
			what := fmt.Sprint("a mode of zeros ", side)
			for _, f := range []impl.Field{c.f, modeOf(c.s, 1, 1, 1)} {
				if m%(side[0]-1) == 0 || n%(side[1]-1) == 0 {
					refusesShares(t, what, scene{c.s, f}, m, n)
				}
			}
			if m%(side[0]-1) != 0 && n%(side[1]-1) != 0 {
				isSumOf(t, "nothing has no share", 0)(impl.ShareOf(c.s, c.f, m, n))
				f, ok := impl.WithoutMode(c.s, c.f, m, n)
				isField(t, "nothing less nothing", f, ok, c.f)
			}
		})
	}
}

func TestSharesAreWhatTheDocumentTells(t *testing.T) {
	source := numbers{412}
	for kind, number := range someKinds {
		eachShape(func(wide, high int64, wrap bool) {
			if wrap {
				return
			}
			s := anySheet(&source, wide, high, false)
			c := scene{s, anyField(&source, s, number)}
			for range 2 {
				m, n := 1+below(&source, maxOrder), 1+below(&source, maxOrder)
				what := fmt.Sprint(" ", kind, wide, high, m, n)
				isResult[float32](t, "ShareOf"+what, toldTwo(shareOf(c, m, n)))(impl.ShareOf(c.s, c.f, m, n))
				isResult[impl.Field](t, "WithoutMode"+what, toldTwo(c.withoutMode(m, n)))(impl.WithoutMode(c.s, c.f, m, n))
			}
		})
	}
}

// The digests are those of a second program, in another language, that follows
// the document.
func TestSharesToTheLastBit(t *testing.T) {
	for _, c := range []struct {
		seed         uint64
		kind         string
		shares, rest digest
	}{
		{413, "near", 0xec5219e6bdcd8cff, 0x92969e29f98dff09},
		{414, "few bits", 0x57c44c316df958e6, 0xe815392eb147c1e8},
		{415, "special", 0xed2d1e833802d6b8, 0x70384371ac84cc3b},
		{416, "ordinary", 0x1b3ff6edd1531a33, 0x7ca04ba7fba4e82a},
		{417, "integers", 0xddd9cbd18e7fa355, 0x23436cc70befadbe},
	} {
		source := numbers{c.seed}
		shares, rests := newDigest, newDigest
		for _, side := range someSides {
			s := plainSheet(side[0], side[1], false, 0.5)
			for range 12 {
				f := anyField(&source, s, someKinds[c.kind])
				m := 1 + below(&source, maxOrder)
				n := 1 + below(&source, maxOrder)
				shares = shares.withOutcome(impl.ShareOf(s, f, m, n))
				rests = rests.withMade(impl.WithoutMode(s, f, m, n))
			}
		}
		is(t, "the digest of shares of "+c.kind, shares, c.shares)
		is(t, "the digest of rests of "+c.kind, rests, c.rest)
	}
}

func TestSharesThatAreRefused(t *testing.T) {
	c := rowScene(1, 2, 3)
	for name, change := range map[string]func(f *impl.Field){
		"a short E":         func(f *impl.Field) { f.E = f.E[:14] },
		"a long E":          func(f *impl.Field) { f.E = append(f.E, 0) },
		"no E":              func(f *impl.Field) { f.E = nil },
		"a short X":         func(f *impl.Field) { f.X = f.X[1:] },
		"a long Y":          func(f *impl.Field) { f.Y = append(f.Y, 0) },
		"nothing":           func(f *impl.Field) { *f = impl.Field{} },
		"E in the border":   func(f *impl.Field) { f.E[0] = 1 },
		"E in the last one": func(f *impl.Field) { f.E[14] = least },
		"E that is none":    func(f *impl.Field) { f.E[2] = notANumber },
		"X in the last row": func(f *impl.Field) { f.X[12] = 1 },
		"Y in the last one": func(f *impl.Field) { f.Y[9] = -least },
	} {
		bad := scene{c.s, copyField(c.f)}
		change(&bad.f)
		refusesShares(t, name, bad, 1, 1)
	}
	is(t, "the field that was changed is good", impl.IsField(c.s, c.f), true)
	f := slices.Clone(c.f.E)
	isNothing[float32](t, "ShareOf a field of no sheet")(impl.ShareOf(impl.Sheet{}, impl.Field{E: f, X: f, Y: f}, 1, 1))
}
