package tests

import (
	"math"
	"slices"
	"strings"
	"testing"

	"loop.example/g01201/impl"
)

func TestTextExample(t *testing.T) {
	text, ok := impl.ComplexText([]complex64{1})
	is(t, "the text of 1 succeeds", ok, true)
	is(t, "the text of 1", text, "3f80000000000000")
}

func TestTextsOfNumbers(t *testing.T) {
	cases := []struct {
		list []float32
		want string
	}{
		{nil, "none"},
		{[]float32{}, "none"},
		{[]float32{1, -2}, "3f800000,c0000000"},
		{[]float32{0, negativeZero, numberOf(1)}, "00000000,80000000,00000001"},
		{[]float32{infinity, -infinity, numberOf(0xff812345)}, "7f800000,ff800000,7fc00000"},
		{[]float32{numberOf(0xabcdef01)}, "abcdef01"},
	}
	for _, c := range cases {
		text, ok := impl.NumbersText(c.list)
		is(t, "NumbersText succeeds", ok, true)
		is(t, "NumbersText", text, c.want)
		list, ok := impl.ReadNumbers(c.want)
		is(t, "ReadNumbers succeeds", ok, true)
		sameNumbers(t, list, c.list)
	}
}

func sameNumbers(t *testing.T, got, want []float32) {
	t.Helper()
	if !slices.EqualFunc(got, want, func(a, b float32) bool { return bitsOf(a) == bitsOf(b) }) {
		t.Errorf("numbers: got %v, want %v", got, want)
	}
}

func sameComplexes(t *testing.T, got, want []complex64) {
	t.Helper()
	if !slices.EqualFunc(got, want, func(a, b complex64) bool { return wordsOf(a) == wordsOf(b) }) {
		t.Errorf("complex numbers: got %v, want %v", got, want)
	}
}

func TestTextsOfComplexNumbers(t *testing.T) {
	cases := []struct {
		list []complex64
		want string
	}{
		{nil, "none"},
		{[]complex64{1, complex(0, -2)}, "3f80000000000000,00000000c0000000"},
		{[]complex64{complex(negativeZero, infinity)}, "800000007f800000"},
		{[]complex64{complex(numberOf(0x7f800001), numberOf(0xffffffff))}, "7fc000007fc00000"},
	}
	for _, c := range cases {
		text, ok := impl.ComplexText(c.list)
		is(t, "ComplexText succeeds", ok, true)
		is(t, "ComplexText", text, c.want)
		list, ok := impl.ReadComplex(c.want)
		is(t, "ReadComplex succeeds", ok, true)
		sameComplexes(t, list, c.list)
	}
}

func TestTextsLeadBack(t *testing.T) {
	source := numbers{14}
	for count := range manyNumbers + 1 {
		var list []float32
		var complexes []complex64
		for range count {
			list = append(list, source.number())
			complexes = append(complexes, complex(source.number(), special(&source)))
		}
		text, ok := impl.NumbersText(list)
		is(t, "NumbersText succeeds", ok, true)
		back, ok := impl.ReadNumbers(text)
		is(t, "ReadNumbers succeeds", ok, true)
		sameNumbers(t, back, list)
		text, ok = impl.ComplexText(complexes)
		is(t, "ComplexText succeeds", ok, true)
		backs, ok := impl.ReadComplex(text)
		is(t, "ReadComplex succeeds", ok, true)
		sameComplexes(t, backs, complexes)
	}
}

func TestTextsOfTooManyNumbers(t *testing.T) {
	text, ok := impl.NumbersText(repeated[float32](1, manyNumbers+1))
	is(t, "NumbersText succeeds", ok, false)
	is(t, "NumbersText that fails", text, "")
	text, ok = impl.ComplexText(repeated[complex64](1, manyNumbers+1))
	is(t, "ComplexText succeeds", ok, false)
	is(t, "ComplexText that fails", text, "")
	refusesNumbers(t, strings.Repeat("3f800000,", manyNumbers)+"3f800000")
	refusesComplex(t, strings.Repeat("3f80000000000000,", manyNumbers)+"3f80000000000000")
	refusesNumbers(t, strings.Repeat(",", 1000000))
}

func refusesNumbers(t *testing.T, s string) {
	t.Helper()
	list, ok := impl.ReadNumbers(s)
	if ok || len(list) != 0 {
		t.Errorf("ReadNumbers %.40q: got %v, %v", s, list, ok)
	}
}

func refusesComplex(t *testing.T, s string) {
	t.Helper()
	list, ok := impl.ReadComplex(s)
	if ok || len(list) != 0 {
		t.Errorf("ReadComplex %.40q: got %v, %v", s, list, ok)
	}
}

func TestReadersRefuseOtherTexts(t *testing.T) {
	const word = "3f800000"
	for _, s := range []string{
		"", ",", "None", "NONE", "none,", ",none", "none,none", " none", "0", "3f80000", "3f8000000", "13f800000",
		"3F800000", "3f80000G", "3f80000g", "+3f80000", "-3f80000", "0x3f8000", "3f80_000", " 3f80000", "3f80000 ",
		"7fc00001", "7f800001", "7fffffff", "ff800001", "ffc00000", "ffffffff", "3f80000\n", "3f80000\x00", "3f8000é",
	} {
		refusesNumbers(t, s)
		refusesComplex(t, s)
		refusesNumbers(t, word+","+s)
		refusesNumbers(t, s+","+word)
		refusesComplex(t, word+s)
		refusesComplex(t, s+word)
		refusesComplex(t, word+word+","+s)
	}
	for _, s := range []string{word + word, word + " " + word, word + ";" + word, word + ",," + word, word + "\n", "\n" + word} {
		refusesNumbers(t, s)
	}
	for _, s := range []string{word, word + "," + word, word + word + word, "3f8000000000000", "3f800000000000000"} {
		refusesComplex(t, s)
	}
}

func TestNames(t *testing.T) {
	for _, s := range []string{"a", "z", "ring", "abcdefgh", "zzzzzzzz"} {
		is(t, "IsName "+s, impl.IsName(s), true)
	}
	for _, s := range []string{"", "abcdefghi", "A", "aB", "a1", "1", "a b", " a", "a ", "`", "{", "a\x00", "é", "a\n", "-", strings.Repeat("a", 1000)} {
		is(t, "IsName "+s, impl.IsName(s), false)
	}
}

func TestDecimals(t *testing.T) {
	cases := []struct {
		n    int64
		want string
	}{
		{0, "0"}, {7, "7"}, {-4, "-4"}, {10, "10"}, {-100, "-100"}, {65003, "65003"},
		{1000000000000000, "1000000000000000"}, {-1000000000000000, "-1000000000000000"},
	}
	for _, c := range cases {
		is(t, "Decimal", impl.Decimal(c.n), c.want)
		n, ok := impl.ReadDecimal(c.want)
		is(t, "ReadDecimal succeeds", ok, true)
		is(t, "ReadDecimal", n, c.n)
	}
	is(t, "the greatest", impl.Decimal(math.MaxInt64), "9223372036854775807")
	is(t, "the least", impl.Decimal(math.MinInt64), "-9223372036854775808")
}

var notDecimals = []string{
	"", "-", "+", "+1", "-0", "00", "01", "-01", "--1", " 1", "1 ", "1.0", "1e3", "0x1", "1_000", "a", "1a", "none",
	"1000000000000001", "-1000000000000001", "9223372036854775807", "-9223372036854775808", "9223372036854775808",
	"18446744073709551617", "99999999999999999999", "\u0661", "1\n", "1\x00", "\u22121",
}

func TestReadDecimalRefusesOtherTexts(t *testing.T) {
	for _, s := range append(slices.Clone(notDecimals), "1,2", strings.Repeat("1", 100000)) {
		n, ok := impl.ReadDecimal(s)
		is(t, "ReadDecimal succeeds", ok, false)
		is(t, "ReadDecimal that fails", n, 0)
	}
}

func TestLists(t *testing.T) {
	const many = 64
	cases := []struct {
		list []int64
		want string
	}{
		{nil, "none"},
		{[]int64{}, "none"},
		{[]int64{0}, "0"},
		{[]int64{3, -1, 3}, "3,-1,3"},
		{[]int64{1000000000000000, -1000000000000000}, "1000000000000000,-1000000000000000"},
		{repeated[int64](7, many), strings.Repeat("7,", many-1) + "7"},
	}
	for _, c := range cases {
		text, ok := impl.ListText(c.list)
		is(t, "ListText succeeds", ok, true)
		is(t, "ListText", text, c.want)
		list, ok := impl.ReadList(c.want)
		is(t, "ReadList succeeds", ok, true)
		is(t, "ReadList", slices.Equal(list, c.list), true)
	}
}

func TestListsThatAreRefused(t *testing.T) {
	const many = 64
	for _, list := range [][]int64{
		repeated[int64](7, many+1), {1000000000000001}, {1, -1000000000000001}, {math.MaxInt64}, {math.MinInt64, 1},
	} {
		text, ok := impl.ListText(list)
		is(t, "ListText succeeds", ok, false)
		is(t, "ListText that fails", text, "")
	}
	texts := []string{",", "1,", ",1", "1,,2", "1, 2", "1;2", "none,1", "1,none", "None", strings.Repeat("7,", many) + "7"}
	for _, s := range notDecimals {
		texts = append(texts, "1,"+s, s+",1")
		if s != "none" {
			texts = append(texts, s)
		}
	}
	for _, s := range texts {
		list, ok := impl.ReadList(s)
		if ok || len(list) != 0 {
			t.Errorf("ReadList %.40q: got %v, %v", s, list, ok)
		}
	}
}

func TestCheckOf(t *testing.T) {
	cases := []struct {
		start int64
		s     string
		want  int64
	}{
		{0, "", 0}, {5, "", 5}, {65002, "", 65002}, {0, "a", 128}, {0, "\x00", 31}, {0, "\xff", 286}, {1, "a", 805},
		{128, "b", 21782}, {65002, "\x00", 64357}, {65002, "\xff", 64612},
	}
	for _, c := range cases {
		got, ok := impl.CheckOf(c.start, c.s)
		is(t, "CheckOf succeeds", ok, true)
		is(t, "CheckOf "+c.s, got, c.want)
	}
	for _, start := range []int64{-1, 65003, math.MinInt64, math.MaxInt64} {
		got, ok := impl.CheckOf(start, "a")
		is(t, "CheckOf succeeds", ok, false)
		is(t, "CheckOf that fails", got, 0)
	}
}

func TestCheckOfGoesOn(t *testing.T) {
	var b strings.Builder
	for i := range 1000 {
		b.WriteByte(byte(i * i))
	}
	s := b.String()
	whole, _ := impl.CheckOf(12345, s)
	for cut := range len(s) + 1 {
		first, _ := impl.CheckOf(12345, s[:cut])
		second, ok := impl.CheckOf(first, s[cut:])
		is(t, "CheckOf succeeds", ok, true)
		is(t, "CheckOf of a cut text", second, whole)
	}
}

func TestLimits(t *testing.T) {
	is(t, "MaxNumbers", impl.MaxNumbers, 256)
	is[int64](t, "MaxValue", impl.MaxValue, 1000000000000000)
	is(t, "MaxItems", impl.MaxItems, 64)
	is(t, "CheckSize", impl.CheckSize, 65003)
}
