package tests

import (
	"fmt"
	"math"
	"slices"
	"testing"

	"loop.example/g01201/impl"
)

// isNear compares numbers that are nearly equal.
func isNear(t *testing.T, what string, got, want float32, far float64) {
	t.Helper()
	if !(math.Abs(float64(got)-float64(want)) <= far) {
		t.Errorf("%s: got %v, want nearly %v", what, got, want)
	}
}

func isNearComplex(t *testing.T, what string, got, want complex64, far float64) {
	t.Helper()
	isNear(t, what+", real part", real(got), real(want), far)
	isNear(t, what+", imaginary part", imag(got), imag(want), far)
}

// spectrumFor and listFor require that nothing fails.
func spectrumFor(t *testing.T, list []float32) []complex64 {
	t.Helper()
	spectrum, ok := impl.SpectrumOf(list)
	is(t, fmt.Sprint("SpectrumOf ", len(list), " succeeds"), fmt.Sprint(len(spectrum), ok), fmt.Sprint(len(list), true))
	return spectrum
}

func listFor(t *testing.T, spectrum []complex64) []float32 {
	t.Helper()
	list, ok := impl.ListOf(spectrum)
	is(t, fmt.Sprint("ListOf ", len(spectrum), " succeeds"), fmt.Sprint(len(list), ok), fmt.Sprint(len(spectrum), true))
	return list
}

// What is lost is told by the greatest number of a record.
func TestSpectraLeadBackToTheirRecords(t *testing.T) {
	source := numbers{280}
	for count := 1; count <= maxRecord; count++ {
		for _, size := range []float32{1, 0x1p-60, 0x1p60, -3e30} {
			for range 4 {
				list := anyRecord(&source, count, near)
				for k := range list {
					list[k] *= size
				}
				for k, x := range listFor(t, spectrumFor(t, list)) {
					isNear(t, fmt.Sprint("the number ", k, " of ", count), x, list[k], 2e-6*math.Abs(float64(size)))
				}
			}
		}
		list := anyRecord(&source, count, smallInteger)
		for k, x := range listFor(t, spectrumFor(t, list)) {
			is(t, fmt.Sprint("the integer ", k, " of ", count), math.Round(float64(x)), float64(list[k]))
		}
	}
}

func TestRecordsOfOneNumberLeadBackToTheLastBit(t *testing.T) {
	for _, bits := range specialBits {
		x := numberOf(bits)
		if x-x == 0 {
			want := x + 0
			isSpectrumOf(t, "one number", []float32{x}, complex(want, 0))
			isListOf(t, "one number", []complex64{complex(x, 0)}, want)
		}
	}
}

func TestSpectraOfSumsAreNearlySumsOfSpectra(t *testing.T) {
	source := numbers{281}
	for count := 1; count <= maxRecord; count++ {
		a, b := anyRecord(&source, count, near), anyRecord(&source, count, near)
		sum := make([]float32, count)
		for k := range sum {
			sum[k] = a[k] + b[k]
		}
		first, second := spectrumFor(t, a), spectrumFor(t, b)
		for m, x := range spectrumFor(t, sum) {
			isNearComplex(t, fmt.Sprint("the number ", m, " of ", count), x, first[m]+second[m], 2e-5)
		}
	}
}

// A spectrum is nearly that of sums that are made with 64-bit numbers.
func TestSpectraOfSinesAndCosines(t *testing.T) {
	source := numbers{282}
	for count := 1; count <= maxRecord; count++ {
		list := anyRecord(&source, count, near)
		for m, x := range spectrumFor(t, list) {
			re, im := 0.0, 0.0
			for k, y := range list {
				angle := -2 * math.Pi * float64(k) * float64(m) / float64(count)
				re, im = re+float64(y)*math.Cos(angle), im+float64(y)*math.Sin(angle)
			}
			isNearComplex(t, fmt.Sprint("the number ", m, " of ", count), x, complex(float32(re), float32(im)), 1e-5)
		}
	}
}

func TestFirstNumbersOfSpectraAreSums(t *testing.T) {
	source := numbers{283}
	for _, number := range []func(source *numbers) float32{near, fewBits, ordinary, smallInteger} {
		for count := 1; count <= maxRecord; count++ {
			list := anyRecord(&source, count, number)
			sum, ok := impl.SumNumbers(list)
			is(t, "SumNumbers succeeds", ok, true)
			isComplex(t, fmt.Sprint("the first of ", count), spectrumFor(t, list)[0], complex(sum, 0))
			isOfBin(t, fmt.Sprint("of ", count), list, 0, complex(sum, 0))
		}
	}
}

func TestSpectraAreBins(t *testing.T) {
	source := numbers{284}
	for count := 1; count <= maxRecord; count++ {
		list := anyRecord(&source, count, near)
		for m, x := range spectrumFor(t, list) {
			turns := float32(m) / float32(count)
			bin, ok := impl.BinOf(list, turns)
			is(t, "BinOf succeeds", ok, true)
			isNearComplex(t, fmt.Sprint("the bin ", m, " of ", count), bin, x, 2e-4)
			if count&(count-1) == 0 {
				isNearComplex(t, fmt.Sprint("the bin ", m, " of ", count), bin, x, 2e-5)
			}
		}
	}
}

// tone is a record that turns some times.
func tone(count, times int) []float32 {
	list := make([]float32, count)
	for k := range list {
		list[k] = float32(math.Sin(2*math.Pi*float64(k)*float64(times)/float64(count) + 1))
	}
	return list
}

func TestTonesHaveStrongBins(t *testing.T) {
	for count := 3; count <= maxRecord; count++ {
		for times := 1; 2*times < count; times++ {
			spectrum := spectrumFor(t, tone(count, times))
			strong, ok := impl.StrongBins(spectrum, 2)
			isSet(t, fmt.Sprint("StrongBins of ", times, " turns in ", count), strong, ok, int64(times), int64(count-times))
			cut, ok := impl.CutSpectrum(spectrum, int64(times), int64(times))
			is(t, "CutSpectrum succeeds", ok, true)
			for k, x := range listFor(t, cut) {
				isNear(t, fmt.Sprint("what is kept of ", times, " turns in ", count), x, tone(count, times)[k], 2e-6)
			}
		}
	}
}

func TestPartsOfSpectraLeadBackTogether(t *testing.T) {
	source := numbers{285}
	for count := int64(2); count <= maxRecord; count++ {
		list := anyRecord(&source, int(count), near)
		spectrum := spectrumFor(t, list)
		at := 1 + below(&source, count/2)
		low, ok := impl.CutSpectrum(spectrum, 0, at-1)
		is(t, "CutSpectrum succeeds", ok, true)
		high, ok := impl.CutSpectrum(spectrum, at, count/2)
		is(t, "CutSpectrum succeeds", ok, true)
		for m, x := range spectrum {
			isComplex(t, fmt.Sprint("both parts of the number ", m, " of ", count), low[m]+high[m], x)
			is(t, "one part is nothing", low[m] == 0 || high[m] == 0, true)
		}
		first, second := listFor(t, low), listFor(t, high)
		for k, x := range list {
			isNear(t, fmt.Sprint("both parts of ", k, " of ", count), first[k]+second[k], x, 2e-6)
		}
		whole, ok := impl.CutSpectrum(spectrum, 0, count/2)
		isSpectrum(t, "CutSpectrum of nothing", whole, ok, spectrum...)
	}
}

func TestTransfersOfRecordsThatAreLater(t *testing.T) {
	source := numbers{286}
	for count := 1; count <= maxRecord; count++ {
		list := anyRecord(&source, count, near)
		list[0] += 4 * float32(count)
		by := int(below(&source, int64(count)))
		later := append(slices.Clone(list[count-by:]), list[:count-by]...)
		transfer, ok := impl.TransferOf(spectrumFor(t, later), spectrumFor(t, list))
		is(t, "TransferOf succeeds", ok, true)
		for m, x := range transfer {
			want := impl.PhasorOf(-float64(by*m%count) / float64(count))
			isNearComplex(t, fmt.Sprint("the transfer ", m, " of ", count), x, want, 2e-6)
		}
	}
}

// runFor requires that a run succeeds.
func runFor(t *testing.T, b impl.Bin, list []float32) impl.Bin {
	t.Helper()
	got, ok := impl.RunBin(b, list)
	is(t, fmt.Sprint("RunBin ", b, len(list), " succeeds"), ok, true)
	return got
}

func TestBinsOfRecordsThatAreCutAnywhere(t *testing.T) {
	source := numbers{287}
	for what, number := range someKinds {
		for range 6 {
			b := anyBin(&source, maxRecord)
			list := anyRecord(&source, maxRecord, number)
			whole := runFor(t, b, list)
			is(t, "the last Step", whole.Step, b.Step+maxRecord)
			for cut := range maxRecord + 1 {
				got := runFor(t, runFor(t, b, list[:cut]), list[cut:])
				isBin(t, fmt.Sprint("a record of ", what, " that is cut at ", cut), got, true, whole)
			}
			single := b
			for k, x := range list {
				next, ok := impl.StepBin(single, x)
				isBin(t, fmt.Sprint("StepBin ", k), next, ok, runFor(t, single, list[k:k+1]))
				single = next
			}
			isBin(t, "a record of "+what+" that is cut into numbers", single, true, whole)
		}
	}
}

func TestBinsOfRecordsThatAreCutInSeveralPlaces(t *testing.T) {
	source := numbers{288}
	for what, number := range someKinds {
		for range 100 {
			list, turns := anyRecord(&source, 1+int(below(&source, maxRecord)), number), anyTurns(&source)
			whole, ok := impl.BinOf(list, turns)
			is(t, "BinOf succeeds", ok, true)
			b := impl.Bin{Turns: turns}
			for rest := list; len(rest) > 0; {
				count := below(&source, int64(len(rest))+1)
				b, rest = runFor(t, b, rest[:count]), rest[count:]
			}
			isBin(t, "a record of "+what+" that is cut", b, true, impl.Bin{Turns: turns, Step: int64(len(list)), Sum: whole})
		}
	}
}

// Records longer than one run can add are those of runs that go on.
func TestBinsOfLongRecordsThatAreCutElsewhere(t *testing.T) {
	source := numbers{289}
	for range 20 {
		list, first := anyRecord(&source, 200, near), anyBin(&source, 200)
		inParts := func(parts ...int) impl.Bin {
			b, at := first, 0
			for _, count := range parts {
				b = runFor(t, b, list[at:at+count])
				at += count
			}
			is(t, "all numbers are added", at, len(list))
			return b
		}
		want := inParts(64, 64, 64, 8)
		isBin(t, "a long record", inParts(8, 64, 64, 64), true, want)
		isBin(t, "a long record", inParts(1, 63, 0, 17, 40, 7, 60, 0, 12), true, want)
	}
}

func TestCorrelationsOfExchangedRecords(t *testing.T) {
	source := numbers{290}
	for what, number := range someKinds {
		for count := 1; count <= maxRecord; count++ {
			a, b := anyRecord(&source, count, number), anyRecord(&source, 1+int(below(&source, maxRecord)), number)
			shift := below(&source, 2*maxRecord+1) - maxRecord
			x, ok := impl.CorrelationAt(b, a, -shift)
			is(t, "CorrelationAt succeeds", ok, true)
			isCorrelation(t, "exchanged records of "+what, a, b, shift, x)
		}
	}
}

func TestRecordsAreLateByTheirLags(t *testing.T) {
	source := numbers{291}
	for range 300 {
		sound := anyRecord(&source, 20, near)
		sound[int(below(&source, 20))] += 3
		by := below(&source, 45)
		first := append(slices.Clone(sound), make([]float32, 44)...)
		later := append(make([]float32, by), sound...)
		isLag(t, "a later record", first, later, maxRecord, by)
		isLag(t, "an earlier record", later, first, maxRecord, -by)
		isLag(t, "the same record", first, first, maxRecord, 0)
		power, ok := impl.CorrelationAt(first, later, by)
		is(t, "CorrelationAt succeeds", ok, true)
		isCorrelation(t, "a record with itself", sound, sound, 0, power)
	}
}

// spectrumInputs are arguments for all functions of chapter 6.
type spectrumInputs struct {
	list, other, run    []float32
	spectrum, in        []complex64
	bin                 impl.Bin
	turns, value        float32
	kind, count, many   int64
	low, high           int64
	shift, most, length int64
}

// spectrumInputsAt are valid in one of two cases.
func spectrumInputsAt(n int) spectrumInputs {
	source := numbers{uint64(n) + 1<<43}
	count := 1 + below(&source, maxRecord)
	half := count/2 + 1
	in := spectrumInputs{
		list: anyRecord(&source, int(count), special), other: anyRecord(&source, int(count), special),
		run:      anyRecord(&source, int(below(&source, maxRecord+1)), special),
		spectrum: anySpectrum(&source, int(count), special), in: anySpectrum(&source, int(count), special),
		bin: anyBin(&source, maxRecord), turns: anyTurns(&source), value: special(&source),
		kind: below(&source, 3), count: 1 + below(&source, maxRecord), many: below(&source, maxRecord+1),
		low: below(&source, half), shift: below(&source, 2*maxRecord+1) - maxRecord, most: below(&source, maxRecord+1),
	}
	in.high = in.low + below(&source, half-in.low)
	if n%2 == 0 {
		return in
	}
	for _, change := range []func(){
		func() { in.list = append(in.list, in.list...) },
		func() { in.list = nil },
		func() { in.other = append(in.other, in.value) },
		func() { in.run = anyRecord(&source, maxRecord+1, special) },
		func() { in.spectrum = append(in.spectrum, in.in...) },
		func() { in.spectrum = []complex64{} },
		func() { in.in = in.in[1:] },
		func() { in.bin.Turns, in.turns = special(&source), special(&source) },
		func() { in.bin.Step = wild(&source) },
		func() { in.kind, in.count = wild(&source), wild(&source) },
		func() { in.many, in.most = wild(&source), wild(&source) },
		func() { in.low, in.high = wild(&source), wild(&source) },
		func() { in.low, in.high = in.high, in.low },
		func() { in.shift = wild(&source) },
	} {
		if source.next()>>62 == 0 {
			change()
		}
	}
	return in
}

func outcomesOfSpectra(in spectrumInputs) []outcome {
	var all []outcome
	collect[[]float32](&all, "WindowOf")(impl.WindowOf(in.kind, in.count))
	collect[[]float32](&all, "TimesWindow")(impl.TimesWindow(in.list, in.other))
	collect[complex64](&all, "BinOf")(impl.BinOf(in.list, in.turns))
	collect[impl.Bin](&all, "StepBin")(impl.StepBin(in.bin, in.value))
	collect[impl.Bin](&all, "RunBin")(impl.RunBin(in.bin, in.run))
	collect[[]complex64](&all, "SpectrumOf")(impl.SpectrumOf(in.list))
	collect[[]float32](&all, "ListOf")(impl.ListOf(in.spectrum))
	collect[[]float32](&all, "PowersIn")(impl.PowersIn(in.spectrum))
	collect[[]int64](&all, "StrongBins")(impl.StrongBins(in.spectrum, in.many))
	collect[[]complex64](&all, "TransferOf")(impl.TransferOf(in.spectrum, in.in))
	collect[[]complex64](&all, "CutSpectrum")(impl.CutSpectrum(in.spectrum, in.low, in.high))
	collect[float32](&all, "CorrelationAt")(impl.CorrelationAt(in.list, in.other, in.shift))
	collect[int64](&all, "LagOf")(impl.LagOf(in.list, in.other, in.most))
	return append(all, outcome{"reports", told(impl.ValidBin(in.bin)), true, false})
}

// A lag can be missing in spite of valid arguments, where there are
// not-a-numbers alone.
func TestFunctionsOfSpectraReturnForAllArguments(t *testing.T) {
	succeeded, failed := map[string]int{}, map[string]int{}
	for n := range 4000 {
		for _, o := range outcomesOfSpectra(spectrumInputsAt(n)) {
			if o.ok {
				succeeded[o.what]++
				continue
			}
			failed[o.what]++
			is(t, fmt.Sprint(o.what, " of ", n, " fails with zero values"), o.isZero, true)
			is(t, fmt.Sprint(o.what, " of ", n, " is not valid"), n%2 == 1 || o.what == "LagOf", true)
		}
	}
	is(t, "how many functions succeed", len(succeeded), 14)
	for what, count := range succeeded {
		is(t, what+" succeeds and fails", count > 100 && (failed[what] > 100 || what == "reports"), true)
	}
}

func TestEqualSpectraHaveEqualResults(t *testing.T) {
	for n := range 1000 {
		first := outcomesOfSpectra(spectrumInputsAt(n))
		outcomesOfSpectra(spectrumInputsAt(n + 1))
		if second := outcomesOfSpectra(spectrumInputsAt(n)); !slices.Equal(first, second) {
			t.Fatalf("inputs %d: got %v, then %v", n, first, second)
		}
	}
}

// roomySpectra puts all lists in arrays that have more on both sides, and
// returns a function that tells these arrays.
func roomySpectra(in spectrumInputs) (spectrumInputs, func() string) {
	list, a := roomy(in.list, 11)
	other, b := roomy(in.other, 12)
	run, c := roomy(in.run, 13)
	spectrum, d := roomy(in.spectrum, 14)
	second, e := roomy(in.in, 15)
	in.list, in.other, in.run, in.spectrum, in.in = a, b, c, d, e
	return in, func() string { return told(list, other, run, spectrum, second) }
}

func TestSpectraDoNotModifyTheirArguments(t *testing.T) {
	for n := range 1000 {
		in, tell := roomySpectra(spectrumInputsAt(n))
		before := tell()
		outcomesOfSpectra(in)
		if tell() != before {
			t.Fatalf("inputs %d have been modified", n)
		}
	}
}

// owns checks that writing into a list changes none of what is told.
func owns[T any](t *testing.T, what string, tell func() string, junk T) func(list []T, ok bool) {
	t.Helper()
	return func(list []T, ok bool) {
		t.Helper()
		is(t, what+" succeeds", ok, true)
		before := tell()
		room := list[:cap(list)]
		for k := range room {
			room[k] = junk
		}
		is(t, what+" owns its memory", tell() == before, true)
	}
}

func TestWhatSpectraReturnOwnsItsMemory(t *testing.T) {
	for n := 0; n < 200; n += 2 {
		in, tell := roomySpectra(spectrumInputsAt(n))
		first := outcomesOfSpectra(in)
		owns[float32](t, "WindowOf", tell, 12345)(impl.WindowOf(in.kind, in.count))
		owns[float32](t, "TimesWindow", tell, 12345)(impl.TimesWindow(in.list, in.other))
		owns[float32](t, "TimesWindow with itself", tell, 12345)(impl.TimesWindow(in.list, in.list))
		owns[complex64](t, "SpectrumOf", tell, 12345)(impl.SpectrumOf(in.list))
		owns[float32](t, "ListOf", tell, 12345)(impl.ListOf(in.spectrum))
		owns[float32](t, "PowersIn", tell, 12345)(impl.PowersIn(in.spectrum))
		owns[int64](t, "StrongBins", tell, 12345)(impl.StrongBins(in.spectrum, in.many))
		owns[complex64](t, "TransferOf", tell, 12345)(impl.TransferOf(in.spectrum, in.in))
		owns[complex64](t, "CutSpectrum", tell, 12345)(impl.CutSpectrum(in.spectrum, in.low, in.high))
		owns[complex64](t, "CutSpectrum of nothing", tell, 12345)(impl.CutSpectrum(in.spectrum, 0, int64(len(in.spectrum)/2)))
		is(t, "later results", slices.Equal(outcomesOfSpectra(in), first), true)
	}
}

func TestNilIsAnEmptyListOfNumbersThatTurn(t *testing.T) {
	none := spectrumInputs{bin: impl.Bin{Turns: 0.25, Step: 3, Sum: complex(1, 2)}, count: 1}
	empty := none
	empty.list, empty.other, empty.run = []float32{}, []float32{}, []float32{}
	empty.spectrum, empty.in = []complex64{}, []complex64{}
	is(t, "lists of no numbers", slices.Equal(outcomesOfSpectra(none), outcomesOfSpectra(empty)), true)
}
