package tests

import (
	"math"
	"math/big"
	"testing"

	"loop.example/g01201/impl"
)

func TestComplexNumbersAreToldByTheirBits(t *testing.T) {
	source := numbers{8}
	for range 5000 {
		a := complex(special(&source), special(&source))
		b := complex(special(&source), special(&source))
		if source.next()>>63 == 0 {
			b = a
		}
		is(t, "SameComplex "+wordsOf(a)+" "+wordsOf(b), impl.SameComplex(a, b), wordsOf(a) == wordsOf(b))
		finite := impl.IsFinite(real(a)) && impl.IsFinite(imag(a))
		is(t, "IsFiniteComplex "+wordsOf(a), impl.IsFiniteComplex(a), finite)
	}
}

func special(source *numbers) float32 {
	return numberOf(specialBits[(source.next()>>33)%uint64(len(specialBits))])
}

func TestSameComplexOfEachPart(t *testing.T) {
	is(t, "real zeros", impl.SameComplex(complex(0, 1), complex(negativeZero, 1)), false)
	is(t, "imaginary zeros", impl.SameComplex(complex(1, 0), complex(1, negativeZero)), false)
	is(t, "not-a-numbers", impl.SameComplex(complex(1, notANumber), complex(1, numberOf(0xff800001))), true)
	is(t, "one not-a-number", impl.SameComplex(complex(1, notANumber), complex(2, notANumber)), false)
	is(t, "an infinite real part", impl.IsFiniteComplex(complex(infinity, 0)), false)
	is(t, "an infinite imaginary part", impl.IsFiniteComplex(complex(0, -infinity)), false)
	is(t, "a part that is not a number", impl.IsFiniteComplex(complex(0, notANumber)), false)
}

func TestNarrowComplex(t *testing.T) {
	isComplex(t, "ties", impl.NarrowComplex(complex(1+0x1p-24, 1+3*0x1p-24)), complex(1, numberOf(0x3f800002)))
	isComplex(t, "too great", impl.NarrowComplex(complex(1e300, -1e300)), complex(infinity, -infinity))
	isComplex(t, "too small", impl.NarrowComplex(complex(-1e-300, 1e-300)), complex(negativeZero, 0))
	isComplex(t, "not-a-numbers", impl.NarrowComplex(complex(math.NaN(), math.Inf(1))), complex(notANumber, infinity))
}

func TestComplexExamples(t *testing.T) {
	isComplex(t, "1 + 2 i times 3 - i", impl.MulComplex(complex(1, 2), complex(3, -1)), complex(5, 5))
	isComplex(t, "4 i by 2", impl.QuotientOf(complex(0, 4), 2), complex(0, 2))
}

func TestProductsOfSmallIntegersAreExact(t *testing.T) {
	for n := range 13 * 13 * 13 * 13 {
		a, b, c, d := float32(n%13-6), float32(n/13%13-6), float32(n/169%13-6), float32(n/2197-6)
		got := impl.MulComplex(complex(a, b), complex(c, d))
		want := complex(a*c-b*d, a*d+b*c)
		if got != want {
			t.Errorf("(%v + %v i) (%v + %v i): got %v, want %v", a, b, c, d, got, want)
		}
		back := impl.QuotientOf(got, complex(c, d))
		if (c != 0 || d != 0) && back != complex(a, b) {
			t.Errorf("%v by %v + %v i: got %v, want %v + %v i", got, c, d, back, a, b)
		}
	}
}

func TestProductsOfZerosAndInfinities(t *testing.T) {
	z := negativeZero
	cases := []struct{ x, y, want complex64 }{
		{complex(z, 0), complex(1, 0), complex(z, 0)},
		{complex(z, z), complex(1, 1), complex(0, z)},
		{complex(-1, 0), complex(0, 0), complex(z, 0)},
		{complex(0, -1), complex(1, 0), complex(0, -1)},
		{complex(infinity, 0), complex(1, 0), complex(infinity, notANumber)},
		{complex(infinity, 0), complex(1, 1), complex(infinity, infinity)},
		{complex(infinity, infinity), complex(1, 1), complex(notANumber, infinity)},
		{complex(notANumber, 1), complex(1, 1), complex(notANumber, notANumber)},
		{complex(3e38, 0), complex(2, 0), complex(infinity, 0)},
		{complex(3e38, 3e38), complex(3e38, 3e38), complex(0, infinity)},
	}
	for _, c := range cases {
		isComplex(t, "product", impl.MulComplex(c.x, c.y), c.want)
	}
}

func TestProductsAreMadeWithLongNumbers(t *testing.T) {
	a := float32(1 + 0x1p-12)
	square := float32(1 + 0x1p-11)
	isComplex(t, "what 32 bits lose", impl.MulComplex(complex(a, square), complex(a, 1)),
		complex(0x1p-24, float32(float64(a)+float64(square)*float64(a))))
	tiny := float32(0x1p-30)
	got := impl.MulComplex(complex(a, tiny), complex(a, -tiny))
	isNumber(t, "what 64 bits lose", real(got), square)
}

// longDifference returns a c - b d with 64-bit numbers, narrowed.
func longDifference(a, b, c, d float32) float32 {
	product := func(x, y float32) *big.Float {
		return new(big.Float).SetPrec(200).Mul(big.NewFloat(float64(x)), big.NewFloat(float64(y)))
	}
	got, _ := new(big.Float).SetPrec(53).Sub(product(a, c), product(b, d)).Float32()
	return got
}

func TestProductsAreRoundedAsTold(t *testing.T) {
	source := numbers{9}
	for range 5000 {
		a, b, c, d := ordinary(&source), ordinary(&source), ordinary(&source), ordinary(&source)
		want := complex(longDifference(a, b, c, d), longDifference(a, -b, d, c))
		isComplex(t, "product", impl.MulComplex(complex(a, b), complex(c, d)), want)
		power := longDifference(a, -b, a, b)
		isNumber(t, "power", impl.PowerOf(complex(a, b)), power)
	}
}

// ordinary returns a number from 2 to the power of -70 to one of 70.
func ordinary(source *numbers) float32 {
	bits := uint32(source.next() >> 32)
	return numberOf(bits&0x807fffff | (57+uint32(source.next()>>33)%140)<<23)
}

func TestScaleComplex(t *testing.T) {
	isComplex(t, "half", impl.ScaleComplex(complex(1, 2), 0.5), complex(0.5, 1))
	isComplex(t, "-1", impl.ScaleComplex(complex(0, 2), -1), complex(negativeZero, -2))
	isComplex(t, "infinity", impl.ScaleComplex(complex(0, 2), infinity), complex(notANumber, infinity))
	isComplex(t, "too great", impl.ScaleComplex(complex(3e38, -3e38), 2), complex(infinity, -infinity))
	least := numberOf(1)
	isComplex(t, "subnormal", impl.ScaleComplex(complex(least, 3*least), 0.5), complex(0, 2*least))
	isComplex(t, "not-a-number", impl.ScaleComplex(1, notANumber), complex(notANumber, notANumber))
	isComplex(t, "an infinite part", impl.ScaleComplex(complex(infinity, 1), 2), complex(infinity, 2))
	isComplex(t, "a part that is not a number", impl.ScaleComplex(complex(1, notANumber), 2), complex(2, notANumber))
	isComplex(t, "zeros with signs", impl.ScaleComplex(complex(0, negativeZero), -1), complex(negativeZero, 0))
}

func TestConjugateOf(t *testing.T) {
	isComplex(t, "1 + 2 i", impl.ConjugateOf(complex(1, 2)), complex(1, -2))
	isComplex(t, "1", impl.ConjugateOf(1), complex(1, negativeZero))
	isComplex(t, "-0 - 0 i", impl.ConjugateOf(complex(negativeZero, negativeZero)), complex(negativeZero, 0))
	isComplex(t, "infinity", impl.ConjugateOf(complex(-infinity, infinity)), complex(-infinity, -infinity))
	isComplex(t, "not-a-number", impl.ConjugateOf(complex(1, notANumber)), complex(1, notANumber))
}

func TestPowers(t *testing.T) {
	isNumber(t, "3 + 4 i", impl.PowerOf(complex(3, 4)), 25)
	isNumber(t, "a power that is too great", impl.PowerOf(complex(2e38, 0)), infinity)
	isNumber(t, "a power that is too small", impl.PowerOf(complex(1e-30, 1e-30)), 0)
	isNumber(t, "-0 - 0 i", impl.PowerOf(complex(negativeZero, negativeZero)), 0)
	isNumber(t, "a part that is not a number", impl.PowerOf(complex(infinity, notANumber)), notANumber)
	isNumber(t, "what 32 bits lose", impl.PowerOf(complex(4096, 1+0x1p-12)), 16777218)
}

func TestLongOf(t *testing.T) {
	isNumber(t, "3 + 4 i", impl.LongOf(complex(3, 4)), 5)
	isNumber(t, "-0", impl.LongOf(complex(negativeZero, negativeZero)), 0)
	isNumber(t, "a power that is too great", impl.LongOf(complex(0, -0x1p127)), 0x1p127)
	isNumber(t, "a power that is too small", impl.LongOf(complex(numberOf(1), 0)), numberOf(1))
	isNumber(t, "a length that is too great", impl.LongOf(complex(3e38, 3e38)), infinity)
	isNumber(t, "infinity", impl.LongOf(complex(-infinity, 1)), infinity)
	isNumber(t, "not-a-number", impl.LongOf(complex(notANumber, 1)), notANumber)
	source := numbers{10}
	for range 2000 {
		a, b := ordinary(&source), ordinary(&source)
		isNumber(t, "length", impl.LongOf(complex(a, b)), longLength(a, b))
	}
}

func longLength(a, b float32) float32 {
	square := func(x float32) *big.Float {
		return new(big.Float).SetPrec(53).Mul(big.NewFloat(float64(x)), big.NewFloat(float64(x)))
	}
	power := new(big.Float).SetPrec(53).Add(square(a), square(b))
	got, _ := new(big.Float).SetPrec(53).Sqrt(power).Float32()
	return got
}

func TestQuotients(t *testing.T) {
	nothing := complex(notANumber, notANumber)
	z := negativeZero
	cases := []struct{ x, y, want complex64 }{
		{complex(5, 5), complex(3, -1), complex(1, 2)},
		{1, complex(0, 1), complex(0, -1)},
		{complex(z, z), 1, complex(z, 0)},
		{complex(z, 0), complex(-1, 0), complex(0, 0)},
		{1, 0, nothing}, {0, 0, nothing}, {complex(1, 1), complex(z, z), nothing}, {complex(infinity, 1), 0, nothing},
		{1, complex(infinity, 0), nothing},
		{complex(infinity, 0), 2, complex(infinity, notANumber)},
		{complex(0x1p127, 0x1p127), complex(0x1p127, 0x1p127), 1},
		{complex(numberOf(1), 0), complex(numberOf(2), 0), 0.5},
		{0x1p127, 0x1p-149, complex(infinity, 0)},
		{-0x1p-149, 0x1p127, complex(z, 0)},
		{complex(notANumber, 0), 1, nothing},
	}
	for _, c := range cases {
		isComplex(t, "quotient", impl.QuotientOf(c.x, c.y), c.want)
	}
}

func TestQuotientsAreRoundedAsTold(t *testing.T) {
	source := numbers{11}
	for range 5000 {
		a, b, c, d := ordinary(&source), ordinary(&source), ordinary(&source), ordinary(&source)
		power := longSum(c, c, d, d)
		re, _ := new(big.Float).SetPrec(53).Quo(longSum(a, c, b, d), power).Float32()
		im, _ := new(big.Float).SetPrec(53).Quo(longSum(b, c, -a, d), power).Float32()
		isComplex(t, "quotient", impl.QuotientOf(complex(a, b), complex(c, d)), complex(re, im))
	}
}

// longSum returns p q + r s with 64-bit numbers.
func longSum(p, q, r, s float32) *big.Float {
	product := func(x, y float32) *big.Float {
		return new(big.Float).SetPrec(53).Mul(big.NewFloat(float64(x)), big.NewFloat(float64(y)))
	}
	return new(big.Float).SetPrec(53).Add(product(p, q), product(r, s))
}
