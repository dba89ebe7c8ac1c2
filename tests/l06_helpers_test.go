package tests

import (
	"fmt"
	"math"
	"testing"

	"loop.example/g01201/impl"
)

// someWindows are all three kinds.
var someWindows = []int64{impl.WindowNone, impl.WindowTriangle, impl.WindowCosine}

// noLengths are how many numbers neither a record nor a spectrum has.
var noLengths = []int64{0, -1, -2, -maxRecord, maxRecord + 1, maxRecord + 2, 256, 1 << 32, 1<<32 + 1, math.MaxInt64, math.MinInt64}

// someLengthsOfRecords are even and odd ones, powers of two and primes.
var someLengthsOfRecords = []int{1, 2, 3, 4, 5, 6, 7, 8, 9, 15, 16, 17, 31, 32, 33, 60, 61, 63, maxRecord}

func anyRecord(source *numbers, count int, number func(source *numbers) float32) []float32 {
	var list []float32
	for range count {
		list = append(list, number(source))
	}
	return list
}

func anySpectrum(source *numbers, count int, number func(source *numbers) float32) []complex64 {
	var list []complex64
	for range count {
		re := number(source)
		list = append(list, complex(re, number(source)))
	}
	return list
}

// anyTurns returns turns that are finite: few of them, or any.
func anyTurns(source *numbers) float32 {
	turns := source.number()
	if source.next()>>63 == 0 || turns-turns != 0 {
		return near(source) * 4
	}
	return turns
}

// anyBin returns a bin to which some numbers can be added.
func anyBin(source *numbers, numbers int64) impl.Bin {
	return impl.Bin{
		Turns: anyTurns(source), Step: below(source, maxTicks+1-numbers),
		Sum: complex(special(source), special(source)),
	}
}

// term is a number with a phasor, as the document tells.
func term(x float32, phasor complex64) complex64 {
	return complex(float32(real(phasor)*x), float32(imag(phasor)*x))
}

// grown adds numbers to a bin as the document tells.
func grown(b impl.Bin, list []float32) impl.Bin {
	for _, x := range list {
		product := float64(b.Step) * float64(b.Turns)
		next := term(x, impl.PhasorOf(-product))
		b.Sum = complex(real(b.Sum)+real(next), imag(b.Sum)+imag(next))
		b.Step++
	}
	return b
}

// spectrumOf makes a spectrum as the document tells.
func spectrumOf(list []float32) []complex64 {
	var spectrum []complex64
	for m := range list {
		re, im := float32(0), float32(0)
		for k, x := range list {
			quotient := float64(k*m%len(list)) / float64(len(list))
			next := term(x, impl.PhasorOf(-quotient))
			re, im = re+real(next), im+imag(next)
		}
		spectrum = append(spectrum, complex(re, im))
	}
	return spectrum
}

// listOf makes a record of a spectrum as the document tells.
func listOf(spectrum []complex64) []float32 {
	var list []float32
	for k := range spectrum {
		re := float32(0)
		for m, x := range spectrum {
			phasor := impl.PhasorOf(float64(k*m%len(spectrum)) / float64(len(spectrum)))
			re += real(impl.MulComplex(x, phasor))
		}
		list = append(list, re/float32(len(spectrum)))
	}
	return list
}

// strongest picks indices one after another, each with the greatest power that
// is left.
func strongest(spectrum []complex64, count int64) []int64 {
	picked := make([]bool, len(spectrum))
	rank := func(m int) float64 {
		power := float64(impl.PowerOf(spectrum[m]))
		if power != power {
			return -1
		}
		return power
	}
	for range min(count, int64(len(spectrum))) {
		best := -1
		for m := range spectrum {
			if !picked[m] && (best < 0 || rank(m) > rank(best)) {
				best = m
			}
		}
		picked[best] = true
	}
	var set []int64
	for m, isPicked := range picked {
		if isPicked {
			set = append(set, int64(m))
		}
	}
	return set
}

// cutOf keeps a part of a spectrum as the document tells.
func cutOf(spectrum []complex64, low, high int64) []complex64 {
	cut := make([]complex64, len(spectrum))
	for m := low; m <= high; m++ {
		cut[m] = spectrum[m]
		if m > 0 {
			cut[int64(len(spectrum))-m] = spectrum[int64(len(spectrum))-m]
		}
	}
	return cut
}

// correlationOf sums products up as the document tells.
func correlationOf(a, b []float32, shift int64) float32 {
	sum := 0.0
	for i := max(0, -shift); i < int64(len(a)) && i+shift < int64(len(b)); i++ {
		sum += float64(a[i]) * float64(b[i+shift])
	}
	return float32(sum)
}

// lagOf looks for the greatest correlation.
func lagOf(a, b []float32, most int64) (int64, bool) {
	lag, greatest, found := int64(0), float32(0), false
	for shift := most; shift >= -most; shift-- {
		now := correlationOf(a, b, shift)
		if now == now && (!found || now >= greatest) {
			lag, greatest, found = shift, now, true
		}
	}
	return lag, found
}

func (d digest) withComplex(x complex64) digest {
	return d.with(bitsOf(real(x))).with(bitsOf(imag(x)))
}

// withSpectrum and withList take results of functions that do not fail.
func (d digest) withSpectrum(spectrum []complex64, ok bool) digest {
	for _, x := range spectrum {
		d = d.withComplex(x)
	}
	return d
}

func (d digest) withList(list []float32, ok bool) digest {
	for _, x := range list {
		d = d.with(bitsOf(x))
	}
	return d
}

func isSpectrum(t *testing.T, what string, got []complex64, ok bool, want ...complex64) {
	t.Helper()
	is(t, what, told(got, ok), told(want, true))
}

func isBin(t *testing.T, what string, got impl.Bin, ok bool, want impl.Bin) {
	t.Helper()
	is(t, what, told(got, ok), told(want, true))
}

// isOfBin checks BinOf.
func isOfBin(t *testing.T, what string, list []float32, turns float32, want complex64) {
	t.Helper()
	got, ok := impl.BinOf(list, turns)
	is(t, fmt.Sprint("BinOf ", what, " with the turns ", turns), told(got, ok), told(want, true))
}

func isCorrelation(t *testing.T, what string, a, b []float32, shift int64, want float32) {
	t.Helper()
	got, ok := impl.CorrelationAt(a, b, shift)
	is(t, fmt.Sprint("CorrelationAt of ", what, " at ", shift), told(got, ok), told(want, true))
}

func isLag(t *testing.T, what string, a, b []float32, most, want int64) {
	t.Helper()
	got, ok := impl.LagOf(a, b, most)
	is(t, fmt.Sprint("LagOf ", what, " with most ", most), told(got, ok), told(want, true))
}

// isNone checks that a function that returns a list has failed.
func isNone[T any](t *testing.T, what string) func(got []T, ok bool) {
	t.Helper()
	return func(got []T, ok bool) {
		t.Helper()
		is(t, what, fmt.Sprint(len(got), ok), "0 false")
	}
}

// isNothing checks that a function that returns one value has failed.
func isNothing[T any](t *testing.T, what string) func(got T, ok bool) {
	t.Helper()
	return func(got T, ok bool) {
		t.Helper()
		var zero T
		is(t, what, told(got, ok), told(zero, false))
	}
}

// refusesRecord checks that all functions with records refuse one, together with
// one that they take.
func refusesRecord(t *testing.T, what string, list []float32) {
	t.Helper()
	good := []float32{1, 2, 3}
	isNone[float32](t, "TimesWindow "+what)(impl.TimesWindow(list, good))
	isNone[float32](t, "TimesWindow with "+what)(impl.TimesWindow(good, list))
	isNone[float32](t, "TimesWindow of twice "+what)(impl.TimesWindow(list, list))
	isNothing[complex64](t, "BinOf "+what)(impl.BinOf(list, 0.25))
	isNone[complex64](t, "SpectrumOf "+what)(impl.SpectrumOf(list))
	for _, shift := range []int64{0, 1, -1, maxRecord, -maxRecord} {
		isNothing[float32](t, "CorrelationAt of "+what)(impl.CorrelationAt(list, good, shift))
		isNothing[float32](t, "CorrelationAt with "+what)(impl.CorrelationAt(good, list, shift))
		isNothing[float32](t, "CorrelationAt of twice "+what)(impl.CorrelationAt(list, list, shift))
	}
	for _, most := range []int64{0, 1, maxRecord} {
		isNothing[int64](t, "LagOf "+what)(impl.LagOf(list, good, most))
		isNothing[int64](t, "LagOf with "+what)(impl.LagOf(good, list, most))
		isNothing[int64](t, "LagOf of twice "+what)(impl.LagOf(list, list, most))
	}
}

// refusesSpectrum checks that all functions with spectra refuse one.
func refusesSpectrum(t *testing.T, what string, spectrum []complex64) {
	t.Helper()
	isNone[float32](t, "ListOf "+what)(impl.ListOf(spectrum))
	isNone[float32](t, "PowersIn "+what)(impl.PowersIn(spectrum))
	for _, count := range []int64{0, 1, maxRecord} {
		isNone[int64](t, "StrongBins of "+what)(impl.StrongBins(spectrum, count))
	}
	good := []complex64{1, 2, 3}
	isNone[complex64](t, "TransferOf "+what)(impl.TransferOf(spectrum, good))
	isNone[complex64](t, "TransferOf to "+what)(impl.TransferOf(good, spectrum))
	isNone[complex64](t, "TransferOf twice "+what)(impl.TransferOf(spectrum, spectrum))
	for _, high := range []int64{0, 1, maxRecord / 2} {
		isNone[complex64](t, "CutSpectrum of "+what)(impl.CutSpectrum(spectrum, 0, high))
	}
}

// refusesBin checks that all functions with bins refuse one.
func refusesBin(t *testing.T, what string, b impl.Bin) {
	t.Helper()
	is(t, "ValidBin "+what, impl.ValidBin(b), false)
	isNothing[impl.Bin](t, "StepBin "+what)(impl.StepBin(b, 1))
	for _, count := range []int{0, 1, maxRecord} {
		isNothing[impl.Bin](t, "RunBin "+what)(impl.RunBin(b, make([]float32, count)))
	}
}
