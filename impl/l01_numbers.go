package impl

import (
	"math"
	"strconv"
	"strings"
)

// Limits of chapter 1.
const (
	MaxNumbers = 256
	MaxValue   = 1000000000000000
	MaxItems   = 64
	CheckSize  = 65003
)

// All not-a-numbers are one value, and so have one text.
const notANumberBits = 2143289344

const (
	noneText  = "none"
	comma     = ","
	wordBytes = 8
	nameBytes = 8
)

// Products that are added to something, or doubled, are converted to their own
// type first: otherwise a compiler may round a product and a sum only once.

// SameNumber reports whether two numbers are the same.
func SameNumber(a, b float32) bool { return BitsOf(a) == BitsOf(b) }

// IsFinite reports whether x is finite.
func IsFinite(x float32) bool { return isFiniteLong(float64(x)) }

func isFiniteLong(x float64) bool { return !math.IsNaN(x) && !math.IsInf(x, 0) }

// BitsOf returns the bits of a number, the same for all not-a-numbers.
func BitsOf(x float32) int64 {
	if math.IsNaN(float64(x)) {
		return notANumberBits
	}
	return int64(math.Float32bits(x))
}

// FromBits returns the number with the given bits.
func FromBits(n int64) (float32, bool) {
	if n < 0 || n > math.MaxUint32 {
		return 0, false
	}
	return math.Float32frombits(uint32(n)), true
}

// NarrowNumber returns the nearest 32-bit number.
func NarrowNumber(x float64) float32 { return float32(x) }

// IsSubnormal reports whether x is subnormal.
func IsSubnormal(x float32) bool {
	const leastNormal = 1.0 / (1 << 126)
	return x != 0 && -leastNormal < x && x < leastNormal
}

// FlushNumber returns x, but a zero with its sign if it is subnormal.
func FlushNumber(x float32) float32 {
	if IsSubnormal(x) {
		return float32(math.Copysign(0, float64(x)))
	}
	return x
}

// RootNumber returns the square root.
func RootNumber(x float32) float32 { return NarrowNumber(math.Sqrt(float64(x))) }

// SameComplex reports whether two complex numbers are the same.
func SameComplex(a, b complex64) bool {
	return SameNumber(real(a), real(b)) && SameNumber(imag(a), imag(b))
}

// IsFiniteComplex reports whether both parts are finite.
func IsFiniteComplex(x complex64) bool { return IsFinite(real(x)) && IsFinite(imag(x)) }

// NarrowComplex returns a number with narrowed parts.
func NarrowComplex(x complex128) complex64 {
	return complex(NarrowNumber(real(x)), NarrowNumber(imag(x)))
}

// MulComplex returns a product.
func MulComplex(x, y complex64) complex64 { return NarrowComplex(longProduct(x, y)) }

func longProduct(x, y complex64) complex128 {
	a, b := float64(real(x)), float64(imag(x))
	c, d := float64(real(y)), float64(imag(y))
	return complex(float64(a*c)-float64(b*d), float64(a*d)+float64(b*c))
}

// ScaleComplex returns a product with a number.
func ScaleComplex(x complex64, by float32) complex64 {
	return complex(mulNumber(real(x), by), mulNumber(imag(x), by))
}

func mulNumber(x, y float32) float32 { return float32(x * y) }

// ConjugateOf returns the conjugate.
func ConjugateOf(x complex64) complex64 { return complex(real(x), -imag(x)) }

// PowerOf returns the power.
func PowerOf(x complex64) float32 { return NarrowNumber(longPower(x)) }

func longPower(x complex64) float64 {
	a, b := float64(real(x)), float64(imag(x))
	return float64(a*a) + float64(b*b)
}

// LongOf returns the root of the power.
func LongOf(x complex64) float32 { return NarrowNumber(math.Sqrt(longPower(x))) }

// QuotientOf returns a quotient.
func QuotientOf(x, y complex64) complex64 {
	product, power := longProduct(x, ConjugateOf(y)), longPower(y)
	return NarrowComplex(complex(real(product)/power, imag(product)/power))
}

// SineTurns returns the sine of some turns.
func SineTurns(x float32) float32 {
	turns := float64(x)
	if !isFiniteLong(turns) {
		return notANumber()
	}
	if isFarTurned(turns) {
		return 0
	}
	return NarrowNumber(longSine(turns))
}

func notANumber() float32 { return float32(math.NaN()) }

// isFarTurned reports whether turns are so many that no part of one is left.
func isFarTurned(turns float64) bool { return math.Abs(turns) >= 1<<52 }

// partOfTurn returns what is left of fewer than 2 to the power of 52 turns when
// whole ones are taken away. It is 1, not less, just below a whole number of
// turns, and -0 for -0, which is why the whole ones are an integer in between.
func partOfTurn(turns float64) float64 {
	part := turns - float64(int64(turns))
	if part < 0 {
		part++
	}
	return part
}

// longSine returns the sine of fewer than 2 to the power of 52 turns.
func longSine(turns float64) float64 {
	part := partOfTurn(turns)
	isTurned := part >= 0.5
	if isTurned {
		part -= 0.5
	}
	if part > 0.25 {
		part = 0.5 - part
	}
	sine := shortSine(part)
	if isTurned {
		return -sine
	}
	return sine
}

// shortSine returns the sine of at most a quarter of a turn.
func shortSine(part float64) float64 {
	const radians = 6.283185307179586
	z := part * radians
	u := z * z
	p := 1.0
	for k := 8.0; k >= 1; k-- {
		p = 1 - u*p/(2*k*(2*k+1))
	}
	return z * p
}

// PhasorOf returns a point of the unit circle.
func PhasorOf(turns float64) complex64 {
	if !isFiniteLong(turns) {
		return complex(notANumber(), notANumber())
	}
	if isFarTurned(turns) {
		return 1
	}
	part := partOfTurn(turns)
	quarters := 0
	for part >= 0.25 {
		part -= 0.25
		quarters++
	}
	return NarrowComplex(turnQuarters(longSine(0.25-part), longSine(part), quarters))
}

// turnQuarters returns c + s i turned by quarters of a turn. A part is taken from
// 0 rather than negated, as a zero would get a sign otherwise.
func turnQuarters(c, s float64, quarters int) complex128 {
	switch quarters {
	case 1:
		return complex(0-s, c)
	case 2:
		return complex(0-c, 0-s)
	case 3:
		return complex(s, 0-c)
	}
	return complex(c, s)
}

// AngleOf returns the angle in turns.
func AngleOf(x complex64) float32 { return AngleTurns(imag(x), real(x)) }

// AngleTurns returns the angle of a point.
func AngleTurns(y, x float32) float32 {
	if !IsFinite(y) || !IsFinite(x) {
		return notANumber()
	}
	if y == 0 && x == 0 {
		return 0
	}
	angle := quarterAngle(math.Abs(float64(y)), math.Abs(float64(x)))
	if x < 0 {
		angle = 0.5 - angle
	}
	if y < 0 {
		angle = -angle
	}
	return NarrowNumber(angle)
}

// quarterAngle returns the angle of a point that is not the middle, from 0 to a
// quarter of a turn.
func quarterAngle(high, far float64) float64 {
	if high > far {
		return 0.25 - eighthAngle(far/high)
	}
	return eighthAngle(high / far)
}

// eighthAngle returns the angle with a tangent from 0 to 1, in turns.
func eighthAngle(tangent float64) float64 {
	const radians = 6.283185307179586
	t := tangent
	for range 3 {
		t = t / (1 + math.Sqrt(1+float64(t*t)))
	}
	u := t * t
	p := 0.0
	for k := 15.0; k >= 1; k -= 2 {
		p = 1/k - float64(u*p)
	}
	return 8 * (t * p) / radians
}

// TenthsOf returns tenths of decibels.
func TenthsOf(power float32) (int64, bool) {
	if !IsFinite(power) || power <= 0 {
		return 0, false
	}
	const tenths = 43.42944819032518
	return int64(math.Floor(float64(longLogarithm(float64(power))*tenths) + 0.5)), true
}

// longLogarithm returns the natural logarithm of a finite number greater than 0.
func longLogarithm(power float64) float64 {
	const logarithmOfTwo = 0.6931471805599453
	x, halvings := nearOne(power)
	s := (x - 1) / (x + 1)
	u := s * s
	q := 0.0
	for k := 25.0; k >= 1; k -= 2 {
		q = 1/k + float64(u*q)
	}
	return float64(2*float64(s*q)) + float64(halvings*logarithmOfTwo)
}

// nearOne halves or doubles a finite number greater than 0 until it is from
// 0.75 to less than 1.5, and counts this.
func nearOne(power float64) (x, halvings float64) {
	x = power
	for ; x >= 1.5; halvings++ {
		x /= 2
	}
	for ; x < 0.75; halvings-- {
		x *= 2
	}
	return x, halvings
}

// SumNumbers returns the sum from left to right.
func SumNumbers(list []float32) (float32, bool) { return addAll(list) }

// DotNumbers returns the sum of products.
func DotNumbers(a, b []float32) (float32, bool) { return addProducts(a, b, mulNumber) }

// SumComplex returns the sum from left to right.
func SumComplex(list []complex64) (complex64, bool) { return addAll(list) }

// DotComplex returns the sum of products.
func DotComplex(a, b []complex64) (complex64, bool) { return addProducts(a, b, MulComplex) }

// DotConjugate returns the sum of products with conjugates.
func DotConjugate(a, b []complex64) (complex64, bool) { return addProducts(a, b, mulConjugate) }

func mulConjugate(x, y complex64) complex64 { return MulComplex(ConjugateOf(x), y) }

// number is what lists that are summed have.
type number interface{ float32 | complex64 }

func addAll[T number](list []T) (T, bool) {
	var sum T
	if len(list) > MaxNumbers {
		return sum, false
	}
	for _, x := range list {
		sum += x
	}
	return sum, true
}

func addProducts[T number](a, b []T, times func(x, y T) T) (T, bool) {
	var sum T
	if len(a) != len(b) || len(a) > MaxNumbers {
		return sum, false
	}
	for i, x := range a {
		sum += times(x, b[i])
	}
	return sum, true
}

// PowersOf returns the sum of powers.
func PowersOf(list []complex64) (float32, bool) {
	if len(list) > MaxNumbers {
		return 0, false
	}
	sum := 0.0
	for _, x := range list {
		sum += longPower(x)
	}
	return NarrowNumber(sum), true
}

// NumbersText returns the text of numbers.
func NumbersText(list []float32) (string, bool) { return joinItems(list, MaxNumbers, wordOf) }

// ReadNumbers returns the numbers with the given text.
func ReadNumbers(s string) ([]float32, bool) { return readItems(s, MaxNumbers, readWord) }

// ComplexText returns the text of complex numbers.
func ComplexText(list []complex64) (string, bool) { return joinItems(list, MaxNumbers, wordsOf) }

// ReadComplex returns the complex numbers with the given text.
func ReadComplex(s string) ([]complex64, bool) { return readItems(s, MaxNumbers, readWords) }

// joinItems returns the text of a list, a word for each item.
func joinItems[T any](list []T, most int, word func(item T) string) (string, bool) {
	if len(list) > most {
		return "", false
	}
	if len(list) == 0 {
		return noneText, true
	}
	words := make([]string, 0, len(list))
	for _, item := range list {
		words = append(words, word(item))
	}
	return strings.Join(words, comma), true
}

// readItems returns the list whose joinItems is s.
func readItems[T any](s string, most int, read func(word string) (T, bool)) ([]T, bool) {
	if s == noneText {
		return nil, true
	}
	// The text can be of any length, so it is not cut before this is known.
	if strings.Count(s, comma) >= most {
		return nil, false
	}
	words := strings.Split(s, comma)
	list := make([]T, 0, len(words))
	for _, word := range words {
		item, ok := read(word)
		if !ok {
			return nil, false
		}
		list = append(list, item)
	}
	return list, true
}

// wordOf returns the hexadecimal digits of a number.
func wordOf(x float32) string {
	const digits = "0123456789abcdef"
	var word [wordBytes]byte
	bits := BitsOf(x)
	for i := wordBytes - 1; i >= 0; i-- {
		word[i] = digits[bits%16]
		bits /= 16
	}
	return string(word[:])
}

// readWord returns the number whose wordOf is word. The number is written again
// because ParseUint also takes capital letters and fewer digits, and because
// only one of the not-a-numbers has a word.
func readWord(word string) (float32, bool) {
	bits, err := strconv.ParseUint(word, 16, 32)
	if err != nil {
		return 0, false
	}
	x := math.Float32frombits(uint32(bits))
	if wordOf(x) != word {
		return 0, false
	}
	return x, true
}

func wordsOf(x complex64) string { return wordOf(real(x)) + wordOf(imag(x)) }

func readWords(word string) (complex64, bool) {
	if len(word) != 2*wordBytes {
		return 0, false
	}
	a, ok := readWord(word[:wordBytes])
	b, alsoOk := readWord(word[wordBytes:])
	if !ok || !alsoOk {
		return 0, false
	}
	return complex(a, b), true
}

// IsName reports whether s is a name.
func IsName(s string) bool {
	if len(s) < 1 || len(s) > nameBytes {
		return false
	}
	for i := range len(s) {
		if s[i] < 'a' || s[i] > 'z' {
			return false
		}
	}
	return true
}

// Decimal returns n in decimal.
func Decimal(n int64) string { return strconv.FormatInt(n, 10) }

// ReadDecimal returns the number with the given decimal text.
func ReadDecimal(s string) (int64, bool) {
	n, err := strconv.ParseInt(s, 10, 64)
	// The number is written again because ParseInt also takes 01, +1 and -0.
	if err != nil || !isValue(n) || Decimal(n) != s {
		return 0, false
	}
	return n, true
}

func isValue(n int64) bool { return -MaxValue <= n && n <= MaxValue }

// ListText returns the text of a list.
func ListText(list []int64) (string, bool) {
	for _, n := range list {
		if !isValue(n) {
			return "", false
		}
	}
	return joinItems(list, MaxItems, Decimal)
}

// ReadList returns the list with the given text.
func ReadList(s string) ([]int64, bool) { return readItems(s, MaxItems, ReadDecimal) }

// CheckOf returns the check number of a text.
func CheckOf(start int64, s string) (int64, bool) {
	if start < 0 || start >= CheckSize {
		return 0, false
	}
	check := start
	for i := range len(s) {
		check = (677*check + int64(s[i]) + 31) % CheckSize
	}
	return check, true
}
