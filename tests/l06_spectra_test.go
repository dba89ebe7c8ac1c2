package tests

import (
	"fmt"
	"math"
	"testing"

	"loop.example/g01201/impl"
)

// isSpectrumOf checks SpectrumOf.
func isSpectrumOf(t *testing.T, what string, list []float32, want ...complex64) {
	t.Helper()
	got, ok := impl.SpectrumOf(list)
	isSpectrum(t, fmt.Sprint("SpectrumOf ", what, " ", list), got, ok, want...)
}

// isListOf checks ListOf.
func isListOf(t *testing.T, what string, spectrum []complex64, want ...float32) {
	t.Helper()
	got, ok := impl.ListOf(spectrum)
	isList(t, fmt.Sprint("ListOf ", what, " ", spectrum), got, ok, want...)
}

func TestExampleOfSpectra(t *testing.T) {
	isSpectrumOf(t, "the example", []float32{1, 1}, 2, 0)
	isListOf(t, "the example", []complex64{2, 0}, 1, 1)
}

// Each number that is wanted here has been computed by hand.
func TestSpectra(t *testing.T) {
	type list = []float32
	inf, nan, z, most := infinity, notANumber, negativeZero, float32(math.MaxFloat32)
	isSpectrumOf(t, "one number", list{3}, 3)
	isSpectrumOf(t, "two numbers", list{3, -1}, 2, 4)
	isSpectrumOf(t, "four numbers", list{1, 2, 3, 4}, 10, complex(-2, 2), -2, complex(-2, -2))
	isSpectrumOf(t, "the first number", list{1, 0, 0, 0}, 1, 1, 1, 1)
	isSpectrumOf(t, "the second number", list{0, 1, 0, 0}, 1, complex(0, -1), -1, complex(0, 1))
	isSpectrumOf(t, "the third number", list{0, 0, 1, 0}, 1, -1, 1, -1)
	isSpectrumOf(t, "the last number", list{0, 0, 0, 1}, 1, complex(0, 1), -1, complex(0, -1))
	isSpectrumOf(t, "zeros", list{0, 0, 0}, 0, 0, 0)
	isSpectrumOf(t, "one zero with a sign", list{z}, 0)
	isSpectrumOf(t, "zeros with signs", list{z, z, z, z}, 0, 0, 0, 0)
	isSpectrumOf(t, "the great one first", list{1 << 24, 1, 1, 0}, 1<<24, complex(1<<24-1, -1), 1<<24, complex(1<<24-1, 1))
	isSpectrumOf(t, "the great one later", list{1, 1, 1 << 24, 0}, 1<<24+2, complex(1-1<<24, -1), 1<<24, complex(1-1<<24, 1))
	isSpectrumOf(t, "a sum that is too great", list{most, most}, complex(inf, 0), 0)
	isSpectrumOf(t, "too great in between", list{most, most, -most, 0}, complex(inf, 0), complex(inf, -most), complex(-most, 0), complex(inf, most))
	isSpectrumOf(t, "one infinity", list{inf}, complex(inf, nan))
	isSpectrumOf(t, "an infinity", list{inf, 1}, complex(inf, nan), complex(inf, nan))
	isSpectrumOf(t, "an infinity that is second", list{1, inf, 0, 0}, complex(inf, nan), complex(nan, -inf), complex(-inf, nan), complex(nan, inf))
	isSpectrumOf(t, "one not-a-number", list{numberOf(0xff800001)}, complex(nan, nan))
	isSpectrumOf(t, "a not-a-number", list{1, 2, nan}, complex(nan, nan), complex(nan, nan), complex(nan, nan))
	isSpectrumOf(t, "ones", repeated[float32](1, 4), 4, 0, 0, 0)
}

func TestListsOfSpectra(t *testing.T) {
	type list = []complex64
	inf, nan, z, most := infinity, notANumber, negativeZero, float32(math.MaxFloat32)
	isListOf(t, "one number", list{complex(3, 4)}, 3)
	isListOf(t, "two numbers", list{2, 4}, 3, -1)
	isListOf(t, "four numbers", list{10, complex(-2, 2), -2, complex(-2, -2)}, 1, 2, 3, 4)
	isListOf(t, "the second number", list{0, complex(0, 1), 0, 0}, 0, -0.25, 0, 0.25)
	isListOf(t, "the last number", list{0, 0, 0, complex(0, 1)}, 0, 0.25, 0, -0.25)
	isListOf(t, "thirds", list{1, 0, 0}, 1.0/3, 1.0/3, 1.0/3)
	isListOf(t, "the great one first", list{1 << 24, 1, 1, 0}, 1<<22, 1<<22-0.25, 1<<22, 1<<22-0.25)
	isListOf(t, "the great one later", list{1, 1, 1 << 24, 0}, 1<<22+0.5, 0.25-1<<22, 1<<22, 0.25-1<<22)
	isListOf(t, "one zero with a sign", list{complex(z, z)}, 0)
	isListOf(t, "zeros with signs", list{complex(z, 0), complex(z, z), complex(0, z), 0}, 0, 0, 0, 0)
	isListOf(t, "a sum that is too great", list{complex(most, 0), complex(most, 0)}, inf, 0)
	isListOf(t, "a sum that is just not", list{complex(most, 0), 0}, most/2, most/2)
	isListOf(t, "half of the least number", list{complex(least, 0), 0}, 0, 0)
	isListOf(t, "more than the least number", list{complex(3*least, 0), 0}, 2*least, 2*least)
	isListOf(t, "less than zero", list{complex(-least, 0), 0}, z, z)
	isListOf(t, "an infinity", list{complex(inf, 0), 0}, inf, inf)
	isListOf(t, "a later infinity", list{0, complex(inf, 0)}, inf, -inf)
	isListOf(t, "an imaginary infinity", list{complex(0, inf), 0}, nan, nan)
	isListOf(t, "infinities", list{complex(inf, 0), complex(inf, 0)}, inf, nan)
	isListOf(t, "a not-a-number", list{complex(nan, 0), 1}, nan, nan)
	isListOf(t, "an imaginary not-a-number", list{complex(1, numberOf(0xff800001))}, nan)
	isListOf(t, "products of 64-bit numbers", list{complex(1+0x1p-23, 1), complex(-1, 1)}, 0x1p-24, 1+0x1p-24)
}

func TestSpectraThatAreRefused(t *testing.T) {
	refusesSpectrum(t, "nil", nil)
	refusesSpectrum(t, "no numbers", []complex64{})
	for _, count := range []int{maxRecord + 1, maxRecord + 2, 2 * maxRecord, 256, 1000} {
		refusesSpectrum(t, fmt.Sprint(count, " numbers"), make([]complex64, count))
		refusesSpectrum(t, fmt.Sprint(count, " ones"), repeated[complex64](1, count))
	}
}

func TestSpectraAreWhatTheDocumentTells(t *testing.T) {
	source := numbers{248}
	for what, number := range someKinds {
		for count := 1; count <= maxRecord; count++ {
			list := anyRecord(&source, count, number)
			isSpectrumOf(t, what, list, spectrumOf(list)...)
			spectrum := anySpectrum(&source, count, number)
			isListOf(t, what, spectrum, listOf(spectrum)...)
		}
	}
}

// The digests are those of a second program, in another language, that follows
// the document.
func TestSpectraToTheLastBit(t *testing.T) {
	for _, c := range []struct {
		seed                   uint64
		kind                   string
		spectra, lists, others digest
	}{
		{250, "near", 0xf9518e7930400e7a, 0xfc4498a2b03aa785, 0x8734bc083159a97e},
		{251, "few bits", 0xf3a560eb3f57dd1d, 0x096f18c8e01bd5a0, 0x3f2ee6605d4a1716},
		{252, "special", 0xdc88db6a2f6e6d7d, 0x5655e7d3a29a4749, 0x98e27cdc8fbf1715},
		{253, "ordinary", 0xfdba5006c86b9b56, 0x2682d92a8b1f3770, 0x7481502f5c9f6234},
		{254, "integers", 0xb11fcfb16cdc3151, 0xb479050f61729051, 0xeeb9e502c8279488},
	} {
		source := numbers{c.seed}
		spectra, lists, others := newDigest, newDigest, newDigest
		for _, count := range someLengthsOfRecords {
			list := anyRecord(&source, count, someKinds[c.kind])
			spectrum, other := anySpectrum(&source, count, someKinds[c.kind]), anySpectrum(&source, count, someKinds[c.kind])
			spectra = spectra.withSpectrum(impl.SpectrumOf(list))
			lists = lists.withList(impl.ListOf(spectrum))
			others = others.withList(impl.PowersIn(spectrum)).withSpectrum(impl.TransferOf(spectrum, other))
		}
		is(t, "the digest of spectra of "+c.kind, spectra, c.spectra)
		is(t, "the digest of lists of "+c.kind, lists, c.lists)
		is(t, "the digest of powers and transfers of "+c.kind, others, c.others)
	}
}

func TestPowersInSpectra(t *testing.T) {
	inf, nan, most := infinity, notANumber, float32(math.MaxFloat32)
	got, ok := impl.PowersIn([]complex64{3, complex(0, 4), complex(3, 4), 0, complex(negativeZero, negativeZero), complex(-2, -1)})
	isList(t, "PowersIn integers", got, ok, 9, 16, 25, 0, 0, 5)
	got, ok = impl.PowersIn([]complex64{complex(most, 0), complex(0x1p63, 0x1p63), complex(0, 0x1p64), complex(least, least), complex(0x1p-75, 0x1p-75)})
	isList(t, "PowersIn what is great and small", got, ok, inf, 0x1p127, inf, 0, least)
	got, ok = impl.PowersIn([]complex64{complex(0, -inf), complex(inf, nan), complex(nan, 0)})
	isList(t, "PowersIn what is not finite", got, ok, inf, nan, nan)
	source := numbers{249}
	for what, number := range someKinds {
		for count := 1; count <= maxRecord; count++ {
			spectrum := anySpectrum(&source, count, number)
			var want []float32
			for _, x := range spectrum {
				want = append(want, impl.PowerOf(x))
			}
			got, ok := impl.PowersIn(spectrum)
			isList(t, fmt.Sprint("PowersIn ", what, count), got, ok, want...)
		}
	}
}

func TestStrongBins(t *testing.T) {
	type list = []complex64
	inf, nan, z, most := infinity, notANumber, negativeZero, float32(math.MaxFloat32)
	none, hidden := complex(nan, 0), complex(inf, nan)
	for _, c := range []struct {
		spectrum list
		count    int64
		want     []int64
	}{
		{list{1, 3, 2}, 2, []int64{1, 2}},
		{list{1, 3, 2}, 0, nil},
		{list{1, 3, 2}, 1, []int64{1}},
		{list{1, 3, 2}, 3, []int64{0, 1, 2}},
		{list{1, 3, 2}, 4, []int64{0, 1, 2}},
		{list{1, 3, 2}, maxRecord, []int64{0, 1, 2}},
		{list{5}, 0, nil},
		{list{5}, 1, []int64{0}},
		{list{5, complex(3, 4)}, 1, []int64{0}},
		{list{complex(3, 4), 5}, 1, []int64{0}},
		{list{4, complex(3, 4), -5}, 1, []int64{1}},
		{list{1, -1, complex(0, 1), complex(0, -1)}, 2, []int64{0, 1}},
		{list{2, 1, 2, 1, 2}, 2, []int64{0, 2}},
		{list{2, 1, 2, 1, 2}, 4, []int64{0, 1, 2, 4}},
		{list{1, 2, 1, 2, 1}, 3, []int64{0, 1, 3}},
		{list{1, complex(1, 0x1p-13)}, 1, []int64{0}},
		{list{1, complex(1, 0x1p-11)}, 1, []int64{1}},
		{list{0, complex(least, least), complex(z, 0)}, 1, []int64{0}},
		{list{1, complex(inf, 0), complex(0, -inf), 2}, 1, []int64{1}},
		{list{1, complex(inf, 0), complex(0, -inf), 2}, 2, []int64{1, 2}},
		{list{1, complex(inf, 0), complex(0, -inf), 2}, 3, []int64{1, 2, 3}},
		{list{complex(most, 0), complex(inf, 0)}, 1, []int64{0}},
		{list{none, 0, 1}, 1, []int64{2}},
		{list{none, 0, 1}, 2, []int64{1, 2}},
		{list{none, 0, 1}, 3, []int64{0, 1, 2}},
		{list{none, none, 0}, 1, []int64{2}},
		{list{none, none, 0}, 2, []int64{0, 2}},
		{list{none, hidden, none}, 2, []int64{0, 1}},
		{list{hidden, complex(least, 0)}, 1, []int64{1}},
		{list{1, none, 3, hidden, 2}, 4, []int64{0, 1, 2, 4}},
	} {
		got, ok := impl.StrongBins(c.spectrum, c.count)
		isSet(t, fmt.Sprint("StrongBins ", c.spectrum, c.count), got, ok, c.want...)
	}
	for count := range int64(maxRecord + 1) {
		var want []int64
		for i := range count {
			want = append(want, i)
		}
		got, ok := impl.StrongBins(repeated[complex64](complex(1, 1), maxRecord), count)
		isSet(t, fmt.Sprint("StrongBins of equal numbers ", count), got, ok, want...)
		got, ok = impl.StrongBins(repeated[complex64](none, maxRecord), count)
		isSet(t, fmt.Sprint("StrongBins of not-a-numbers ", count), got, ok, want...)
	}
}

func TestStrongBinsOfAllKinds(t *testing.T) {
	source := numbers{255}
	for what, number := range someKinds {
		for _, count := range someLengthsOfRecords {
			spectrum := anySpectrum(&source, count, number)
			for _, many := range []int64{0, 1, 2, int64(count) / 2, int64(count) - 1, int64(count), int64(count) + 1, maxRecord} {
				many = min(max(many, 0), maxRecord)
				got, ok := impl.StrongBins(spectrum, many)
				isSet(t, fmt.Sprint("StrongBins ", what, count, many), got, ok, strongest(spectrum, many)...)
			}
		}
	}
	for _, count := range []int64{-1, -2, maxRecord + 1, maxRecord + 2, 1 << 32, 1<<32 + 1, math.MaxInt64, math.MinInt64} {
		for _, spectrum := range [][]complex64{{1}, {1, 2, 3}, make([]complex64, maxRecord)} {
			isNone[int64](t, fmt.Sprint("StrongBins ", spectrum, count))(impl.StrongBins(spectrum, count))
		}
	}
}

// The digests are those of the second program.
func TestStrongBinsOfASecondProgram(t *testing.T) {
	for seed, c := range map[uint64]struct {
		kind string
		want digest
	}{
		270: {"near", 0x921f8f89f1c4009e},
		271: {"few bits", 0x250df2acefc9f92f},
		272: {"special", 0x38843450a4e2009a},
		273: {"ordinary", 0x89d776db0bafa0ad},
		274: {"integers", 0x71a57b6f4dede226},
	} {
		source, got := numbers{seed}, newDigest
		for _, count := range someLengthsOfRecords {
			spectrum := anySpectrum(&source, count, someKinds[c.kind])
			for many := range int64(maxRecord + 1) {
				strong, ok := impl.StrongBins(spectrum, many)
				is(t, "StrongBins succeeds", ok, true)
				for _, m := range strong {
					got = got.with(uint32(m))
				}
			}
		}
		is(t, "the digest of strong bins of "+c.kind, got, c.want)
	}
}

func TestTransfers(t *testing.T) {
	type list = []complex64
	nan := notANumber
	none := complex(nan, nan)
	for _, c := range []struct {
		what          string
		out, in, want list
	}{
		{"one number", list{4}, list{2}, list{2}},
		{"integers", list{complex(0, 4), complex(5, 5), -6}, list{2, complex(3, -1), complex(0, 2)}, list{complex(0, 2), complex(1, 2), complex(0, 3)}},
		{"zeros", list{0, 0}, list{3, complex(0, -2)}, list{0, 0}},
		{"by zeros", list{1, 0, complex(infinity, 1), complex(2, -3)}, list{0, 0, 0, complex(negativeZero, negativeZero)}, repeated(none, 4)},
		{"thirds", list{1, 2}, list{3, -3}, list{1.0 / 3, complex(-2.0/3, negativeZero)}},
		{"by the least number", list{complex(least, 0), 1}, list{complex(least, 0), complex(least, 0)}, list{1, complex(infinity, 0)}},
		{"not-a-numbers", list{complex(nan, 1), 1}, list{1, complex(1, nan)}, repeated(none, 2)},
	} {
		got, ok := impl.TransferOf(c.out, c.in)
		isSpectrum(t, "TransferOf "+c.what, got, ok, c.want...)
	}
	source := numbers{256}
	for what, number := range someKinds {
		for count := 1; count <= maxRecord; count++ {
			out, in := anySpectrum(&source, count, number), anySpectrum(&source, count, number)
			var want []complex64
			for m, x := range out {
				want = append(want, impl.QuotientOf(x, in[m]))
			}
			got, ok := impl.TransferOf(out, in)
			isSpectrum(t, fmt.Sprint("TransferOf ", what, count), got, ok, want...)
		}
	}
}

func TestTransfersOfDifferentLengths(t *testing.T) {
	for _, lengths := range [][2]int{{1, 2}, {3, 2}, {4, 5}, {1, maxRecord}, {maxRecord, maxRecord - 1}, {maxRecord, maxRecord + 1}} {
		a, b := repeated[complex64](1, lengths[0]), repeated[complex64](1, lengths[1])
		isNone[complex64](t, fmt.Sprint("TransferOf ", lengths))(impl.TransferOf(a, b))
		isNone[complex64](t, fmt.Sprint("TransferOf ", lengths, " the other way"))(impl.TransferOf(b, a))
	}
}

func TestCutSpectra(t *testing.T) {
	type list = []complex64
	inf, nan, z := infinity, notANumber, negativeZero
	for _, c := range []struct {
		spectrum  list
		low, high int64
		want      list
	}{
		{list{7}, 0, 0, list{7}},
		{list{1, 2}, 0, 0, list{1, 0}},
		{list{1, 2}, 1, 1, list{0, 2}},
		{list{1, 2}, 0, 1, list{1, 2}},
		{list{1, 2, 3}, 0, 0, list{1, 0, 0}},
		{list{1, 2, 3}, 1, 1, list{0, 2, 3}},
		{list{1, 2, 3, 4}, 0, 0, list{1, 0, 0, 0}},
		{list{1, 2, 3, 4}, 1, 1, list{0, 2, 0, 4}},
		{list{1, 2, 3, 4}, 2, 2, list{0, 0, 3, 0}},
		{list{1, 2, 3, 4}, 0, 1, list{1, 2, 0, 4}},
		{list{1, 2, 3, 4}, 1, 2, list{0, 2, 3, 4}},
		{list{1, 2, 3, 4}, 0, 2, list{1, 2, 3, 4}},
		{list{1, 2, 3, 4, 5}, 1, 1, list{0, 2, 0, 0, 5}},
		{list{1, 2, 3, 4, 5}, 2, 2, list{0, 0, 3, 4, 0}},
		{list{1, 2, 3, 4, 5}, 0, 2, list{1, 2, 3, 4, 5}},
		{list{complex(z, z), complex(inf, nan), complex(z, -1), complex(nan, z)}, 1, 1, list{0, complex(inf, nan), 0, complex(nan, z)}},
		{list{complex(z, z), complex(inf, nan), complex(z, -1), complex(nan, z)}, 2, 2, list{0, 0, complex(z, -1), 0}},
		{list{complex(z, z), complex(z, inf)}, 0, 0, list{complex(z, z), 0}},
	} {
		got, ok := impl.CutSpectrum(c.spectrum, c.low, c.high)
		isSpectrum(t, fmt.Sprint("CutSpectrum ", c.spectrum, c.low, c.high), got, ok, c.want...)
	}
}

func TestCutSpectraOfAllLengths(t *testing.T) {
	source := numbers{257}
	for count := int64(1); count <= maxRecord; count++ {
		spectrum := anySpectrum(&source, int(count), special)
		for low := int64(-1); low <= count; low++ {
			for high := int64(-1); high <= count; high++ {
				what := fmt.Sprint("CutSpectrum of ", count, " from ", low, " to ", high)
				got, ok := impl.CutSpectrum(spectrum, low, high)
				if low < 0 || low > high || 2*high > count {
					isNone[complex64](t, what)(got, ok)
					continue
				}
				isSpectrum(t, what, got, ok, cutOf(spectrum, low, high)...)
			}
		}
		for _, n := range []int64{1 << 32, 1<<32 + 1, math.MaxInt64, math.MinInt64, math.MinInt64 + 1, -1 << 32} {
			isNone[complex64](t, fmt.Sprint("CutSpectrum up to ", n))(impl.CutSpectrum(spectrum, 0, n))
			isNone[complex64](t, fmt.Sprint("CutSpectrum from ", n))(impl.CutSpectrum(spectrum, n, 0))
			isNone[complex64](t, fmt.Sprint("CutSpectrum at ", n))(impl.CutSpectrum(spectrum, n, n))
		}
	}
}
