package tests

import (
	"testing"

	"loop.example/g01201/impl"
)

const manyNumbers = 256

func isSum(t *testing.T, what string, got float32, ok bool, want float32) {
	t.Helper()
	is(t, what+" succeeds", ok, true)
	isNumber(t, what, got, want)
}

func isComplexSum(t *testing.T, what string, got complex64, ok bool, want complex64) {
	t.Helper()
	is(t, what+" succeeds", ok, true)
	isComplex(t, what, got, want)
}

func repeated[T any](x T, count int) []T {
	list := make([]T, count)
	for i := range list {
		list[i] = x
	}
	return list
}

func TestSumNumbers(t *testing.T) {
	least := numberOf(1)
	cases := []struct {
		what string
		list []float32
		want float32
	}{
		{"nil", nil, 0},
		{"no numbers", []float32{}, 0},
		{"integers", []float32{1, 2, -5, 3.5}, 1.5},
		{"zeros with signs", []float32{negativeZero, negativeZero}, 0},
		{"the great one first", []float32{1 << 24, 1, 1}, 1 << 24},
		{"the great one last", []float32{1, 1, 1 << 24}, 1<<24 + 2},
		{"too great in between", []float32{3e38, 3e38, -3e38}, infinity},
		{"in another order", []float32{3e38, -3e38, 3e38}, 3e38},
		{"infinities", []float32{infinity, -infinity}, notANumber},
		{"a not-a-number", []float32{1, numberOf(0xff800001), 2}, notANumber},
		{"subnormal numbers", []float32{least, least, -3 * least}, -least},
		{"many numbers", repeated[float32](1, manyNumbers), manyNumbers},
	}
	for _, c := range cases {
		got, ok := impl.SumNumbers(c.list)
		isSum(t, c.what, got, ok, c.want)
	}
}

func TestDotNumbers(t *testing.T) {
	a := float32(1 + 0x1p-12)
	cases := []struct {
		what string
		a, b []float32
		want float32
	}{
		{"no numbers", nil, []float32{}, 0},
		{"integers", []float32{1, 2, 3}, []float32{4, -5, 6}, 12},
		{"zeros with signs", []float32{negativeZero}, []float32{1}, 0},
		{"a rounded product first", []float32{a, 1}, []float32{a, -(1 + 0x1p-11)}, 0},
		{"a rounded product last", []float32{1, a}, []float32{-(1 + 0x1p-11), a}, 0},
		{"the great one first", []float32{1 << 12, 1, 1}, []float32{1 << 12, 1, 1}, 1 << 24},
		{"the great one last", []float32{1, 1, 1 << 12}, []float32{1, 1, 1 << 12}, 1<<24 + 2},
		{"products that are too great", []float32{3e38, 3e38}, []float32{2, -2}, notANumber},
		{"products that are too small", []float32{1e-30, 1e-30}, []float32{1e-30, 1e-30}, 0},
		{"infinity and zero", []float32{infinity}, []float32{0}, notANumber},
		{"many numbers", repeated[float32](2, manyNumbers), repeated[float32](3, manyNumbers), 6 * manyNumbers},
	}
	for _, c := range cases {
		got, ok := impl.DotNumbers(c.a, c.b)
		isSum(t, c.what, got, ok, c.want)
	}
}

func TestSumComplex(t *testing.T) {
	z := complex(negativeZero, negativeZero)
	cases := []struct {
		what string
		list []complex64
		want complex64
	}{
		{"no numbers", nil, 0},
		{"integers", []complex64{1, complex(2, 3), complex(-4, 5)}, complex(-1, 8)},
		{"zeros with signs", []complex64{z, z}, 0},
		{"the great one first", []complex64{complex(1<<24, 1), complex(1, 1<<24), complex(1, 1)}, complex(1<<24, 1<<24)},
		{"the great one last", []complex64{complex(1, 1), complex(1, 1), complex(1<<24, 1<<24)}, complex(1<<24+2, 1<<24+2)},
		{"infinities", []complex64{complex(infinity, 1), complex(-infinity, infinity)}, complex(notANumber, infinity)},
		{"many numbers", repeated(complex64(complex(1, -2)), manyNumbers), complex(manyNumbers, -2*manyNumbers)},
	}
	for _, c := range cases {
		got, ok := impl.SumComplex(c.list)
		isComplexSum(t, c.what, got, ok, c.want)
	}
}

func TestDotComplex(t *testing.T) {
	a := complex64(1 + 0x1p-12)
	i := complex64(complex(0, 1))
	cases := []struct {
		what string
		a, b []complex64
		want complex64
	}{
		{"no numbers", nil, nil, 0},
		{"i i", []complex64{i}, []complex64{i}, -1},
		{"integers", []complex64{complex(1, 2), 2}, []complex64{complex(3, -1), complex(0, -5)}, complex(5, -5)},
		{"zeros with signs", []complex64{complex(negativeZero, negativeZero)}, []complex64{1}, 0},
		{"a narrowed product", []complex64{a, 1}, []complex64{a, -(1 + 0x1p-11)}, 0},
		{"the great one first", []complex64{1 << 12, i, i}, []complex64{1 << 12, -i, -i}, 1 << 24},
		{"the great one last", []complex64{i, i, 1 << 12}, []complex64{-i, -i, 1 << 12}, 1<<24 + 2},
		{"many numbers", repeated(complex64(complex(1, 1)), manyNumbers), repeated(i, manyNumbers), complex(-manyNumbers, manyNumbers)},
	}
	for _, c := range cases {
		got, ok := impl.DotComplex(c.a, c.b)
		isComplexSum(t, c.what, got, ok, c.want)
	}
}

func TestDotConjugate(t *testing.T) {
	a := complex64(1 + 0x1p-12)
	i := complex64(complex(0, 1))
	cases := []struct {
		what string
		a, b []complex64
		want complex64
	}{
		{"no numbers", nil, nil, 0},
		{"i i", []complex64{i}, []complex64{i}, 1},
		{"the first list has the conjugates", []complex64{complex(1, 2)}, []complex64{complex(3, -1)}, complex(1, -7)},
		{"i and 1", []complex64{i}, []complex64{1}, complex(0, -1)},
		{"1 and i", []complex64{1}, []complex64{i}, i},
		{"integers", []complex64{complex(1, 2), i}, []complex64{complex(3, -1), 2}, complex(1, -9)},
		{"a narrowed product", []complex64{a, 1}, []complex64{a, -(1 + 0x1p-11)}, 0},
		{"many numbers", repeated(i, manyNumbers), repeated(complex64(2), manyNumbers), complex(0, -2*manyNumbers)},
	}
	for _, c := range cases {
		got, ok := impl.DotConjugate(c.a, c.b)
		isComplexSum(t, c.what, got, ok, c.want)
	}
}

func TestPowersOf(t *testing.T) {
	great := complex64(complex(1<<27, 1<<15))
	cases := []struct {
		what string
		list []complex64
		want float32
	}{
		{"no numbers", nil, 0},
		{"integers", []complex64{complex(3, 4), 1}, 26},
		{"zeros with signs", []complex64{complex(negativeZero, negativeZero)}, 0},
		{"what 32 bits lose", []complex64{1 << 12, 1, 1}, 1<<24 + 2},
		{"what 64 bits lose", []complex64{great, 1, 1, 1, 1}, 1 << 54},
		{"in another order", []complex64{1, 1, 1, 1, great}, 1<<54 + 1<<31},
		{"powers that are too small", []complex64{0x1p-75, 0x1p-75}, 0x1p-149},
		{"powers that are too great", []complex64{3e38, 3e38}, infinity},
		{"a part that is not a number", []complex64{1, complex(0, notANumber)}, notANumber},
		{"many numbers", repeated(complex64(complex(1, 2)), manyNumbers), 5 * manyNumbers},
	}
	for _, c := range cases {
		got, ok := impl.PowersOf(c.list)
		isSum(t, c.what, got, ok, c.want)
	}
}

func TestSumsRefuseListsThatAreTooLong(t *testing.T) {
	list, complexes := repeated[float32](1, manyNumbers+1), repeated[complex64](1, manyNumbers+1)
	for _, sum := range []func() (float32, bool){
		func() (float32, bool) { return impl.SumNumbers(list) },
		func() (float32, bool) { return impl.DotNumbers(list, list) },
		func() (float32, bool) { return impl.PowersOf(complexes) },
	} {
		got, ok := sum()
		is(t, "a sum that is too long succeeds", ok, false)
		isNumber(t, "a sum that is too long", got, 0)
	}
	for _, sum := range []func() (complex64, bool){
		func() (complex64, bool) { return impl.SumComplex(complexes) },
		func() (complex64, bool) { return impl.DotComplex(complexes, complexes) },
		func() (complex64, bool) { return impl.DotConjugate(complexes, complexes) },
	} {
		got, ok := sum()
		is(t, "a sum that is too long succeeds", ok, false)
		isComplex(t, "a sum that is too long", got, 0)
	}
}

func TestProductsRefuseListsOfDifferentLengths(t *testing.T) {
	for _, lengths := range [][2]int{{0, 1}, {1, 0}, {2, 3}, {3, 2}, {manyNumbers, manyNumbers + 1}, {manyNumbers + 1, manyNumbers}} {
		m, n := lengths[0], lengths[1]
		number, ok := impl.DotNumbers(repeated[float32](1, m), repeated[float32](1, n))
		is(t, "DotNumbers succeeds", ok, false)
		isNumber(t, "DotNumbers that fails", number, 0)
		product, ok := impl.DotComplex(repeated[complex64](1, m), repeated[complex64](1, n))
		is(t, "DotComplex succeeds", ok, false)
		isComplex(t, "DotComplex that fails", product, 0)
		product, ok = impl.DotConjugate(repeated[complex64](1, m), repeated[complex64](1, n))
		is(t, "DotConjugate succeeds", ok, false)
		isComplex(t, "DotConjugate that fails", product, 0)
	}
}

func TestSumsOfSmallIntegersAreExact(t *testing.T) {
	source := numbers{12}
	for range 300 {
		a, b := []float32{}, []float32{}
		sum, dot := 0, 0
		for range source.next() >> 33 % manyNumbers {
			m, n := int(source.next()>>33%41)-20, int(source.next()>>33%41)-20
			a, b = append(a, float32(m)), append(b, float32(n))
			sum, dot = sum+m, dot+m*n
		}
		got, _ := impl.SumNumbers(a)
		is(t, "sum", got, float32(sum))
		got, _ = impl.DotNumbers(a, b)
		is(t, "sum of products", got, float32(dot))
	}
}

func TestSumsGoFromLeftToRight(t *testing.T) {
	source := numbers{13}
	for range 300 {
		var list []float32
		var want float32
		for range 50 {
			list = append(list, ordinary(&source))
			want += list[len(list)-1]
		}
		got, ok := impl.SumNumbers(list)
		isSum(t, "sum", got, ok, want)
	}
}
