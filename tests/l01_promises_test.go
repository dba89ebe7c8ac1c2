package tests

import (
	"fmt"
	"math"
	"slices"
	"strings"
	"testing"

	"loop.example/g01201/impl"
)

// inputs are arguments for all functions of chapter 1.
type inputs struct {
	a, b      float32
	long      float64
	n         int64
	s         string
	list      []float32
	complexes []complex64
	integers  []int64
}

// told returns a result, told to the last bit.
func told(results ...any) string {
	var b strings.Builder
	for _, r := range results {
		switch x := r.(type) {
		case float32:
			b.WriteString(wordOf(x))
		case complex64:
			b.WriteString(wordsOf(x))
		case []float32:
			for _, y := range x {
				b.WriteString(wordOf(y))
			}
		case []complex64:
			for _, y := range x {
				b.WriteString(wordsOf(y))
			}
		case [][]float32:
			for _, y := range x {
				b.WriteString(told(y))
			}
		case impl.Sheet:
			b.WriteString(told(x.Wide, x.High, x.Wrap, x.Speeds, x.Losses))
		case impl.Field:
			b.WriteString(told(x.E, x.X, x.Y))
		case impl.Wave:
			b.WriteString(told(x.Kind, x.At, x.Long, x.Turns, x.Size, x.Seed))
		case impl.Bin:
			b.WriteString(told(x.Turns, x.Step, x.Sum))
		default:
			fmt.Fprint(&b, x)
		}
		b.WriteByte(' ')
	}
	return b.String()
}

func toldTwo[T any](x T, ok bool) string { return told(x, ok) }

func resultsOfNumbers(in inputs) []string {
	x, y := complex(in.a, in.b), complex(in.b, float32(in.long))
	return []string{
		told(impl.SameNumber(in.a, in.b), impl.IsFinite(in.a), impl.BitsOf(in.a), impl.NarrowNumber(in.long)),
		toldTwo(impl.FromBits(in.n)),
		told(impl.IsSubnormal(in.a), impl.FlushNumber(in.a), impl.RootNumber(in.a)),
		told(impl.SameComplex(x, y), impl.IsFiniteComplex(x), impl.NarrowComplex(complex(in.long, float64(in.b)))),
		told(impl.MulComplex(x, y), impl.ScaleComplex(x, in.b), impl.ConjugateOf(x), impl.PowerOf(x), impl.LongOf(x)),
		told(impl.QuotientOf(x, y), impl.PhasorOf(in.long), impl.AngleOf(x)),
		told(impl.SineTurns(in.a), impl.AngleTurns(in.a, in.b)),
		toldTwo(impl.TenthsOf(in.a)),
	}
}

func resultsOfLists(in inputs) []string {
	return []string{
		toldTwo(impl.SumNumbers(in.list)),
		toldTwo(impl.DotNumbers(in.list, in.list)),
		toldTwo(impl.SumComplex(in.complexes)),
		toldTwo(impl.DotComplex(in.complexes, in.complexes)),
		toldTwo(impl.DotConjugate(in.complexes, in.complexes)),
		toldTwo(impl.PowersOf(in.complexes)),
		toldTwo(impl.NumbersText(in.list)),
		toldTwo(impl.ComplexText(in.complexes)),
		toldTwo(impl.ListText(in.integers)),
		toldTwo(impl.ReadNumbers(in.s)),
		toldTwo(impl.ReadComplex(in.s)),
		toldTwo(impl.ReadList(in.s)),
		toldTwo(impl.ReadDecimal(in.s)),
		toldTwo(impl.CheckOf(in.n, in.s)),
		told(impl.IsName(in.s), impl.Decimal(in.n)),
	}
}

var (
	someLongs = []float64{
		0, math.Copysign(0, -1), 0.25, -0.25, 1e300, -1e-300, math.SmallestNonzeroFloat64, math.MaxFloat64,
		1 << 52, 1<<52 - 0.5, 1 << 63, -(1 << 63), math.Inf(1), math.Inf(-1), math.NaN(),
	}
	someIntegers = []int64{0, 1, -1, 65002, 65003, 4294967295, 4294967296, math.MaxInt64, math.MinInt64, impl.MaxValue}
	someTexts    = []string{
		"", "none", "3f800000", "3f80000000000000", "1,2", "7fc00001", ",", "\x00\xff", "ring", "-5", "-0",
		strings.Repeat(",", 300), strings.Repeat("a", 100000),
	}
	someLengths = []int{0, 1, 2, 64, 65, 256, 257, 1000}
)

func inputsAt(n int) inputs {
	source := numbers{uint64(n)}
	length := someLengths[n%len(someLengths)]
	in := inputs{
		a: special(&source), b: special(&source),
		long: someLongs[n%len(someLongs)], n: someIntegers[n%len(someIntegers)], s: someTexts[n%len(someTexts)],
	}
	for range length {
		in.list = append(in.list, special(&source))
		in.complexes = append(in.complexes, complex(special(&source), source.number()))
		in.integers = append(in.integers, someIntegers[source.next()>>33%uint64(len(someIntegers))])
	}
	return in
}

func TestEqualArgumentsHaveEqualResults(t *testing.T) {
	for n := range 2000 {
		first := append(resultsOfNumbers(inputsAt(n)), resultsOfLists(inputsAt(n))...)
		resultsOfLists(inputsAt(n + 1))
		second := append(resultsOfNumbers(inputsAt(n)), resultsOfLists(inputsAt(n))...)
		if !slices.Equal(first, second) {
			t.Fatalf("inputs %d: got %v, then %v", n, first, second)
		}
	}
}

// roomy returns the list within an array that has more on both sides.
func roomy[T any](list []T, beside T) (all, part []T) {
	all = append(repeated(beside, 3), list...)
	all = append(all, repeated(beside, 5)...)
	return all, all[3 : 3+len(list)]
}

func TestArgumentsAreNotModified(t *testing.T) {
	for n := range 200 {
		in := inputsAt(n)
		var all []float32
		var allComplex []complex64
		var allIntegers []int64
		all, in.list = roomy(in.list, 11)
		allComplex, in.complexes = roomy(in.complexes, 12)
		allIntegers, in.integers = roomy(in.integers, 13)
		before := told(all, allComplex, allIntegers)
		resultsOfLists(in)
		if told(all, allComplex, allIntegers) != before {
			t.Fatalf("inputs %d have been modified", n)
		}
	}
}

func TestResultsAreNewlyAllocated(t *testing.T) {
	list, _ := impl.ReadNumbers("3f800000,40000000")
	list[0], list[1] = 5, 6
	list, ok := impl.ReadNumbers("3f800000,40000000")
	is(t, "ReadNumbers", told(list, ok), told([]float32{1, 2}, true))
	complexes, _ := impl.ReadComplex("3f80000000000000")
	complexes[0] = 5
	complexes, ok = impl.ReadComplex("3f80000000000000")
	is(t, "ReadComplex", told(complexes, ok), told([]complex64{1}, true))
	integers, _ := impl.ReadList("1,2")
	integers[0], integers[1] = 5, 6
	integers, ok = impl.ReadList("1,2")
	is(t, "ReadList", told(integers, ok), told([]int64{1, 2}, true))
}

func TestNilIsAnEmptyList(t *testing.T) {
	var none, empty inputs
	empty.list, empty.complexes, empty.integers = []float32{}, []complex64{}, []int64{}
	is(t, "lists of no numbers", slices.Equal(resultsOfLists(none), resultsOfLists(empty)), true)
}
