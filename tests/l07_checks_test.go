package tests

import (
	"fmt"
	"testing"

	"loop.example/g01201/impl"
)

// The numbers here, and the digests below, are those of a second program, in
// another language, that follows the document.
func TestChecksOfSmallFields(t *testing.T) {
	zero := plainScene(3, 5, false, 0.5, 0)
	one := zero.with(map[int]float32{4: 2})
	for _, c := range []struct {
		c       scene
		workers int64
		want    string
	}{
		{zero, 1, "[51036]"},
		{zero, 2, "[14754 13505]"},
		{zero, 3, "[13505 13505 40382]"},
		{zero, 4, "[13505 40382 40382 40382]"},
		{zero, 5, "[40382 40382 40382 40382 40382]"},
		{zero, 8, "[40382 40382 40382 40382 40382]"},
		{one, 1, "[59333]"},
		{one, 2, "[7435 13505]"},
		{one, 3, "[41932 13505 40382]"},
		{one, 4, "[41932 40382 40382 40382]"},
		{one, 5, "[40382 3806 40382 40382 40382]"},
		{one, 8, "[40382 3806 40382 40382 40382]"},
	} {
		got, ok := impl.StripChecks(c.c.s, c.c.f, c.workers)
		is(t, fmt.Sprint("StripChecks ", c.c.f.E, c.workers), fmt.Sprint(got, ok), c.want+" true")
	}
}

func TestChecksOfASecondProgram(t *testing.T) {
	for _, c := range []struct {
		seed       uint64
		wide, high int64
		wrap       bool
		kind       string
		want       digest
	}{
		{330, 3, 3, false, "near", 0x0ab2a29fdf34f8e9},
		{331, 3, 3, true, "special", 0x85f9f8ce331d0257},
		{332, 16, 16, false, "near", 0x523af5b7f3e8ec30},
		{333, 16, 16, true, "special", 0xfc2b179584172b34},
		{334, 7, 5, true, "few bits", 0x5e5778a453945845},
		{335, 4, 11, false, "special", 0xe06e0eb370362cb0},
		{336, 16, 9, true, "near", 0x7c8d2a2ab163654d},
		{337, 5, 16, false, "few bits", 0x29f0f5f2fdec5b88},
	} {
		from := anyScene(&numbers{c.seed}, c.wide, c.high, c.wrap, someKinds[c.kind])
		got := newDigest
		for workers := int64(1); workers <= maxWorkers; workers++ {
			checks, ok := impl.StripChecks(from.s, from.f, workers)
			is(t, "StripChecks succeeds", ok, true)
			messages, ok := impl.MessagesOf(from.s, workers)
			is(t, "MessagesOf succeeds", ok, true)
			for _, list := range append([][]int64{checks}, messages...) {
				for _, n := range list {
					got = got.with(uint32(n))
				}
			}
		}
		is(t, fmt.Sprintf("the digest of %+v", c), got, c.want)
	}
}

// The check numbers tell E alone, the signs of its zeros, and not-a-numbers as one.
func TestChecksTellEAlone(t *testing.T) {
	source := numbers{350}
	eachScene(351, near, func(c scene) {
		before, ok := impl.StripChecks(c.s, c.f, 3)
		is(t, "StripChecks succeeds", ok, true)
		other := anyField(&source, c.s, special)
		other.E = c.f.E
		got, ok := impl.StripChecks(c.s, other, 3)
		isSet(t, "StripChecks with other X and Y", got, ok, before...)
		at := c.s.Wide + 1
		for _, x := range []float32{0, negativeZero, notANumber} {
			c = c.with(map[int]float32{int(at): x})
			now, ok := impl.StripChecks(c.s, c.f, 3)
			is(t, fmt.Sprint("StripChecks with ", x, " in one cell"), fmt.Sprint(now, ok), fmt.Sprint(checksOf(c.s, c.f, 3), true))
			is(t, "the check numbers of one strip differ", fmt.Sprint(now) != fmt.Sprint(before), true)
			before = now
		}
		c = c.with(map[int]float32{int(at): numberOf(0xff800001)})
		got, ok = impl.StripChecks(c.s, c.f, 3)
		isSet(t, "StripChecks with another not-a-number", got, ok, before...)
	})
}

func TestChecksOfAllShapes(t *testing.T) {
	for kind, number := range someKinds {
		eachScene(324, number, func(c scene) {
			for workers := int64(1); workers <= maxWorkers; workers++ {
				got, ok := impl.StripChecks(c.s, c.f, workers)
				is(t, fmt.Sprint("StripChecks ", kind, c.shape(), workers), fmt.Sprint(got, ok), fmt.Sprint(checksOf(c.s, c.f, workers), true))
			}
		})
	}
}
