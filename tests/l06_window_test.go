package tests

import (
	"fmt"
	"math"
	"strings"
	"testing"

	"loop.example/g01201/impl"
)

func TestKindsOfWindows(t *testing.T) {
	is(t, "the kinds", fmt.Sprint(someWindows), "[0 1 2]")
}

// windowOf requires that a window can be had.
func windowOf(t *testing.T, kind, count int64) []float32 {
	t.Helper()
	window, ok := impl.WindowOf(kind, count)
	is(t, fmt.Sprint("WindowOf ", kind, count, " succeeds"), ok, true)
	is(t, fmt.Sprint("WindowOf ", kind, count, ": how many numbers"), int64(len(window)), count)
	return window
}

func isWindow(t *testing.T, kind int64, want ...float32) {
	t.Helper()
	window, ok := impl.WindowOf(kind, int64(len(want)))
	isList(t, fmt.Sprint("WindowOf ", kind, len(want)), window, ok, want...)
}

func TestExampleOfWindows(t *testing.T) {
	isWindow(t, impl.WindowTriangle, 0.5, 1, 0.5)
	window := windowOf(t, impl.WindowTriangle, 3)
	list, ok := impl.TimesWindow([]float32{2, 2, 2}, window)
	isList(t, "TimesWindow", list, ok, 1, 2, 1)
}

// Each number that is wanted here has been computed by hand.
func TestWindows(t *testing.T) {
	isWindow(t, impl.WindowNone, 1)
	isWindow(t, impl.WindowNone, 1, 1)
	isWindow(t, impl.WindowNone, 1, 1, 1, 1, 1)
	isWindow(t, impl.WindowNone, repeated[float32](1, maxRecord)...)
	isWindow(t, impl.WindowTriangle, 1)
	isWindow(t, impl.WindowTriangle, 2.0/3, 2.0/3)
	isWindow(t, impl.WindowTriangle, 0.4, 0.8, 0.8, 0.4)
	isWindow(t, impl.WindowTriangle, 1.0/3, 2.0/3, 1, 2.0/3, 1.0/3)
	isWindow(t, impl.WindowTriangle, 2.0/7, 4.0/7, 6.0/7, 6.0/7, 4.0/7, 2.0/7)
	isWindow(t, impl.WindowTriangle, 0.25, 0.5, 0.75, 1, 0.75, 0.5, 0.25)
	isWindow(t, impl.WindowCosine, 1)
	isWindow(t, impl.WindowCosine, 0.5, 1, 0.5)
}

// The numbers of this table, and the digests below, are those of a second
// program in another language, which follows the document step by step.
var cosines = []string{
	"3f800000",
	"3f400002 3f3fffff",
	"3f000000 3f800000 3f000000",
	"3eb0e442 3f678dde 3f678dde 3eb0e448",
	"3e800002 3f400002 3f800000 3f3fffff 3e800008",
	"3e40c5f0 3f1c7b90 3f7352f4 3f7352f2 3f1c7b90 3e40c5e6",
	"3e15f61a 3f000000 3f5a827a 3f800000 3f5a827a 3f000000 3e15f61a",
	"3def9208 3ed38bca 3f400002 3f7847d8 3f7847d8 3f3fffff 3ed38bca 3def921c",
	"3dc3910c 3eb0e442 3f278ddf 3f678dde 3f800000 3f678dde 3f278ddf 3eb0e448 3dc39114",
}

func TestCosinesOfASecondProgram(t *testing.T) {
	for i, want := range cosines {
		var words []string
		for _, x := range windowOf(t, impl.WindowCosine, int64(i)+1) {
			words = append(words, wordOf(x))
		}
		is(t, fmt.Sprint("the cosine of ", i+1), strings.Join(words, " "), want)
	}
}

func TestWindowsToTheLastBit(t *testing.T) {
	for kind, want := range map[int64]digest{impl.WindowTriangle: 0x19de8bcd638016b1, impl.WindowCosine: 0x304f258028db9034} {
		got := newDigest
		for count := int64(1); count <= maxRecord; count++ {
			for _, x := range windowOf(t, kind, count) {
				got = got.with(bitsOf(x))
			}
		}
		is(t, fmt.Sprint("the digest of windows of the kind ", kind), got, want)
	}
}

func TestWindowsOfAllLengths(t *testing.T) {
	for count := int64(1); count <= maxRecord; count++ {
		none, triangle, cosine := windowOf(t, impl.WindowNone, count), windowOf(t, impl.WindowTriangle, count), windowOf(t, impl.WindowCosine, count)
		for k := range count {
			what := fmt.Sprint("the number ", k, " of ", count)
			isNumber(t, what, none[k], 1)
			lesser := k + 1
			if count-k < lesser {
				lesser = count - k
			}
			isNumber(t, what, triangle[k], float32(lesser)*2/float32(count+1))
			quotient := float32(k+1) / float32(count+1)
			isNumber(t, what, cosine[k], 0.5-impl.SineTurns(0.25+quotient)/2)
			far := math.Cos(2 * math.Pi * float64(k+1) / float64(count+1))
			is(t, what+" is nearly that of a cosine", math.Abs(float64(cosine[k])-(1-far)/2) < 1e-6, true)
		}
	}
}

func TestMiddlesOfTriangles(t *testing.T) {
	for count := int64(1); count <= maxRecord; count++ {
		window := windowOf(t, impl.WindowTriangle, count)
		what := fmt.Sprint("the middle of ", count)
		if count%2 == 1 {
			isNumber(t, what, window[count/2], 1)
		} else {
			want := float32(count) / float32(count+1)
			isNumber(t, what, window[count/2-1], want)
			isNumber(t, what, window[count/2], want)
			is(t, what+" is less than 1", want < 1, true)
		}
		for k := range count / 2 {
			isNumber(t, fmt.Sprint("the other end of ", count), window[count-1-k], window[k])
			is(t, fmt.Sprint("the numbers of ", count, " grow"), k == 0 || window[k-1] < window[k], true)
		}
	}
}

func TestWindowsThatAreRefused(t *testing.T) {
	for _, kind := range someWindows {
		for _, count := range noLengths {
			isNone[float32](t, fmt.Sprint("WindowOf ", kind, count))(impl.WindowOf(kind, count))
		}
	}
	for _, kind := range []int64{-1, 3, 4, 256, 1 << 32, 1<<32 + 1, math.MaxInt64, math.MinInt64} {
		for _, count := range []int64{0, 1, 2, maxRecord, maxRecord + 1} {
			isNone[float32](t, fmt.Sprint("WindowOf ", kind, count))(impl.WindowOf(kind, count))
		}
	}
}

func TestTimesWindow(t *testing.T) {
	type list = []float32
	inf, nan, z, most := infinity, notANumber, negativeZero, float32(math.MaxFloat32)
	for _, c := range []struct {
		what            string
		a, window, want list
	}{
		{"one number", list{3}, list{-2}, list{-6}},
		{"integers", list{1, -2, 3, 0}, list{4, 5, -6, 7}, list{4, -10, -18, 0}},
		{"zeros with signs", list{z, 0, z, 0, -1}, list{1, -1, -1, 1, 0}, list{z, z, 0, 0, z}},
		{"products that are rounded", list{1 + 0x1p-12, 1 + 0x1p-23}, list{1 + 0x1p-12, 1 + 0x1p-23}, list{1 + 0x1p-11, 1 + 0x1p-22}},
		{"products that are too great", list{most, -most, 0x1p64}, list{2, 2, 0x1p64}, list{inf, -inf, inf}},
		{"products that are too small", list{least, least, least, 0x1p-80}, list{0.5, 1.5, -0.25, 0x1p-80}, list{0, 2 * least, z, 0}},
		{"infinities", list{inf, inf, inf, -inf}, list{2, -2, 0, inf}, list{inf, -inf, nan, -inf}},
		{"not-a-numbers", list{nan, 1, numberOf(0xff800001)}, list{0, numberOf(0x7f800001), inf}, list{nan, nan, nan}},
	} {
		got, ok := impl.TimesWindow(c.a, c.window)
		isList(t, "TimesWindow of "+c.what, got, ok, c.want...)
		got, ok = impl.TimesWindow(c.window, c.a)
		isList(t, "TimesWindow with "+c.what, got, ok, c.want...)
	}
}

func TestTimesWindowOfAllLengths(t *testing.T) {
	source := numbers{240}
	for _, number := range someKinds {
		for count := 1; count <= maxRecord; count++ {
			a, b := anyRecord(&source, count, number), anyRecord(&source, count, number)
			want := make([]float32, count)
			for k := range want {
				want[k] = float32(a[k] * b[k])
			}
			got, ok := impl.TimesWindow(a, b)
			isList(t, fmt.Sprint("TimesWindow of ", count), got, ok, want...)
			got, ok = impl.TimesWindow(a, windowOf(t, impl.WindowNone, int64(count)))
			isList(t, fmt.Sprint("TimesWindow of ", count, " with no window"), got, ok, a...)
		}
	}
}

func TestTimesWindowOfDifferentLengths(t *testing.T) {
	for _, lengths := range [][2]int{{1, 2}, {3, 2}, {4, 5}, {1, maxRecord}, {maxRecord, maxRecord - 1}, {maxRecord, maxRecord + 1}} {
		a, b := make([]float32, lengths[0]), make([]float32, lengths[1])
		isNone[float32](t, fmt.Sprint("TimesWindow ", lengths))(impl.TimesWindow(a, b))
		isNone[float32](t, fmt.Sprint("TimesWindow ", lengths, " the other way"))(impl.TimesWindow(b, a))
	}
}

func TestRecordsThatAreRefused(t *testing.T) {
	refusesRecord(t, "nil", nil)
	refusesRecord(t, "no numbers", []float32{})
	for _, count := range []int{maxRecord + 1, maxRecord + 2, 2 * maxRecord, 256, 1000} {
		refusesRecord(t, fmt.Sprint(count, " numbers"), make([]float32, count))
		refusesRecord(t, fmt.Sprint(count, " ones"), repeated[float32](1, count))
	}
}
