package impl

import (
	"math"
	"strconv"
	"strings"
)

// Every product of floats in this package is converted to its own type at
// once: without the conversion, Go may fuse it with a sum that follows, even
// in another statement, and leave out the rounding in between.

// Limits of chapter 1.
const (
	MaxNumbers = 256
	MaxValue   = 1000000000000000
	MaxItems   = 64
	CheckSize  = 65003
)

// noneText is the text of an empty list.
const noneText = "none"

// bitsOfNaN stand for all not-a-numbers, which are one value.
const bitsOfNaN = 0x7fc00000

// maxBits are the greatest bits of a 32-bit number.
const maxBits = math.MaxUint32

// manyTurns is 2 to the power of 52: from there on, all 64-bit numbers are integers.
const manyTurns = 1 << 52

// hexDigits is how many hexadecimal digits tell a 32-bit number.
const hexDigits = 8

// maxNameBytes is how many bytes a name has at most.
const maxNameBytes = 8

// SameNumber reports whether two numbers are the same.
func SameNumber(a, b float32) bool { return BitsOf(a) == BitsOf(b) }

// IsFinite reports whether x is finite.
func IsFinite(x float32) bool { return isFiniteWide(float64(x)) }

// isFiniteWide reports whether a 64-bit number is finite.
func isFiniteWide(x float64) bool { return !math.IsNaN(x) && !math.IsInf(x, 0) }

// notANumber returns a not-a-number with the bits that stand for all of them.
func notANumber() float32 { return math.Float32frombits(bitsOfNaN) }

// BitsOf returns the bits of a number.
func BitsOf(x float32) int64 {
	if math.IsNaN(float64(x)) {
		return bitsOfNaN
	}
	return int64(math.Float32bits(x))
}

// FromBits returns the number with the given bits.
func FromBits(n int64) (float32, bool) {
	if n < 0 || n > maxBits {
		return 0, false
	}
	return math.Float32frombits(uint32(n)), true
}

// NarrowNumber returns the nearest 32-bit number.
func NarrowNumber(x float64) float32 { return float32(x) }

// IsSubnormal reports whether x is subnormal.
func IsSubnormal(x float32) bool {
	return x != 0 && math.Abs(float64(x)) < 0x1p-126
}

// FlushNumber returns x, but a zero if it is subnormal.
func FlushNumber(x float32) float32 {
	if IsSubnormal(x) {
		return float32(math.Copysign(0, float64(x)))
	}
	return x
}

// SameComplex reports whether two complex numbers are the same.
func SameComplex(a, b complex64) bool {
	return SameNumber(real(a), real(b)) && SameNumber(imag(a), imag(b))
}

// IsFiniteComplex reports whether both parts are finite.
func IsFiniteComplex(x complex64) bool {
	return IsFinite(real(x)) && IsFinite(imag(x))
}

// NarrowComplex returns a number with narrowed parts.
func NarrowComplex(x complex128) complex64 {
	return complex(NarrowNumber(real(x)), NarrowNumber(imag(x)))
}

// MulComplex returns a product.
func MulComplex(x, y complex64) complex64 {
	return NarrowComplex(wideProduct(x, y))
}

// wideProduct returns a product with 64-bit parts, in which each product of
// parts is exact.
func wideProduct(x, y complex64) complex128 {
	a, b := float64(real(x)), float64(imag(x))
	c, d := float64(real(y)), float64(imag(y))
	return complex(float64(a*c)-float64(b*d), float64(a*d)+float64(b*c))
}

// ScaleComplex returns a product with a number.
func ScaleComplex(x complex64, by float32) complex64 {
	return complex(float32(real(x)*by), float32(imag(x)*by))
}

// ConjugateOf returns the conjugate.
func ConjugateOf(x complex64) complex64 { return complex(real(x), -imag(x)) }

// PowerOf returns the power.
func PowerOf(x complex64) float32 { return NarrowNumber(widePower(x)) }

// widePower returns the power as a 64-bit number.
func widePower(x complex64) float64 {
	a, b := float64(real(x)), float64(imag(x))
	return float64(a*a) + float64(b*b)
}

// LongOf returns the root of the power.
func LongOf(x complex64) float32 { return NarrowNumber(math.Sqrt(widePower(x))) }

// QuotientOf returns a quotient.
func QuotientOf(x, y complex64) complex64 {
	product, power := wideProduct(x, ConjugateOf(y)), widePower(y)
	return NarrowComplex(complex(real(product)/power, imag(product)/power))
}

// RootNumber returns the square root.
func RootNumber(x float32) float32 { return NarrowNumber(math.Sqrt(float64(x))) }

// SineTurns returns the sine of some turns.
func SineTurns(x float32) float32 {
	turns := float64(x)
	if !isFiniteWide(turns) {
		return notANumber()
	}
	if math.Abs(turns) >= manyTurns {
		return 0
	}
	return NarrowNumber(wideSine(turns))
}

// partOfTurn returns what is left of finite turns, nearer to 0 than manyTurns,
// without whole ones: from 0 to 1, which a small negative number is rounded to.
func partOfTurn(turns float64) float64 {
	// The way through an integer takes +0 away where math.Trunc would give -0.
	part := turns - float64(int64(turns))
	if part < 0 {
		part += 1
	}
	return part
}

// wideSine returns the sine of turns that partOfTurn takes.
func wideSine(turns float64) float64 {
	const fullTurn = 6.283185307179586
	part := partOfTurn(turns)
	turned := part >= 0.5
	if turned {
		part -= 0.5
	}
	if part > 0.25 {
		part = 0.5 - part
	}
	z := float64(part * fullTurn)
	u := float64(z * z)
	p := 1.0
	for k := 8; k >= 1; k-- {
		p = 1 - float64(u*p)/float64(2*k*(2*k+1))
	}
	sine := float64(z * p)
	if turned {
		return -sine
	}
	return sine
}

// PhasorOf returns a point of the unit circle.
func PhasorOf(turns float64) complex64 {
	if !isFiniteWide(turns) {
		return complex(notANumber(), notANumber())
	}
	if math.Abs(turns) >= manyTurns {
		return 1
	}
	part, quarters := partOfTurn(turns), 0
	for part >= 0.25 {
		part -= 0.25
		quarters++
	}
	c, s := wideSine(0.25-part), wideSine(part)
	// A part that is taken from 0 is +0 for +0, which an opposite would not be.
	switch quarters {
	case 1:
		return NarrowComplex(complex(0-s, c))
	case 2:
		return NarrowComplex(complex(0-c, 0-s))
	case 3:
		return NarrowComplex(complex(s, 0-c))
	}
	return NarrowComplex(complex(c, s))
}

// AngleOf returns the angle in turns.
func AngleOf(x complex64) float32 { return AngleTurns(imag(x), real(x)) }

// AngleTurns returns the angle of a point.
func AngleTurns(y, x float32) float32 {
	if !IsFinite(y) || !IsFinite(x) {
		return notANumber()
	}
	if y == 0 && x == 0 {
		return 0
	}
	a, b := math.Abs(float64(y)), math.Abs(float64(x))
	var angle float64
	if a > b {
		angle = 0.25 - flatAngle(b/a)
	} else {
		angle = flatAngle(a / b)
	}
	if x < 0 {
		angle = 0.5 - angle
	}
	if y < 0 {
		angle = -angle
	}
	return NarrowNumber(angle)
}

// flatAngle returns the angle, in turns, that rises by t, from 0 to 1.
func flatAngle(t float64) float64 {
	const fullTurn = 6.283185307179586
	for range 3 {
		t = t / (1 + math.Sqrt(1+float64(t*t)))
	}
	u := float64(t * t)
	p := 0.0
	for k := 15; k >= 1; k -= 2 {
		p = 1/float64(k) - float64(u*p)
	}
	return float64(8*float64(t*p)) / fullTurn
}

// TenthsOf returns tenths of decibels.
func TenthsOf(power float32) (int64, bool) {
	if !IsFinite(power) || power <= 0 {
		return 0, false
	}
	const tenthsOfLog = 43.42944819032518
	tenths := float64(wideLog(float64(power)) * tenthsOfLog)
	return int64(math.Floor(tenths + 0.5)), true
}

// wideLog returns the natural logarithm of a finite number greater than 0.
func wideLog(x float64) float64 {
	const logOfTwo = 0.6931471805599453
	halved := 0
	for x >= 1.5 {
		x /= 2
		halved++
	}
	for x < 0.75 {
		x += x
		halved--
	}
	s := (x - 1) / (x + 1)
	u := float64(s * s)
	q := 0.0
	for k := 25; k >= 1; k -= 2 {
		q = 1/float64(k) + float64(u*q)
	}
	return float64(2*float64(s*q)) + float64(float64(halved)*logOfTwo)
}

// LogNumber returns the logarithm.
func LogNumber(x float32) float32 {
	switch {
	case x == 0:
		return float32(math.Inf(-1))
	case x > 0 && IsFinite(x):
		return NarrowNumber(wideLog(float64(x)))
	case x > 0:
		return x
	}
	return notANumber()
}

// ExpNumber returns e to a power.
func ExpNumber(x float32) float32 {
	switch {
	case math.IsNaN(float64(x)):
		return notANumber()
	case x > 200:
		return float32(math.Inf(1))
	case x < -200:
		return 0
	}
	t := float64(x) / 256
	p := 1.0
	for k := 12; k >= 1; k-- {
		p = 1 + float64(t*p)/float64(k)
	}
	for range 8 {
		p = float64(p * p)
	}
	return NarrowNumber(p)
}

// SumNumbers returns the sum from left to right.
func SumNumbers(list []float32) (float32, bool) {
	if len(list) > MaxNumbers {
		return 0, false
	}
	sum := float32(0)
	for _, x := range list {
		sum += x
	}
	return sum, true
}

// DotNumbers returns the sum of products.
func DotNumbers(a, b []float32) (float32, bool) {
	if len(a) != len(b) {
		return 0, false
	}
	products := make([]float32, len(a))
	for i, x := range a {
		products[i] = float32(x * b[i])
	}
	return SumNumbers(products)
}

// SumComplex returns the sum from left to right.
func SumComplex(list []complex64) (complex64, bool) {
	if len(list) > MaxNumbers {
		return 0, false
	}
	sum := complex64(0)
	for _, x := range list {
		sum = complex(real(sum)+real(x), imag(sum)+imag(x))
	}
	return sum, true
}

// DotComplex returns the sum of products.
func DotComplex(a, b []complex64) (complex64, bool) {
	if len(a) != len(b) {
		return 0, false
	}
	products := make([]complex64, len(a))
	for i, x := range a {
		products[i] = MulComplex(x, b[i])
	}
	return SumComplex(products)
}

// DotConjugate returns the sum of products with conjugates.
func DotConjugate(a, b []complex64) (complex64, bool) {
	conjugates := make([]complex64, len(a))
	for i, x := range a {
		conjugates[i] = ConjugateOf(x)
	}
	return DotComplex(conjugates, b)
}

// PowersOf returns the sum of powers.
func PowersOf(list []complex64) (float32, bool) {
	if len(list) > MaxNumbers {
		return 0, false
	}
	sum := 0.0
	for _, x := range list {
		sum += widePower(x)
	}
	return NarrowNumber(sum), true
}

// NumbersText returns the text of numbers.
func NumbersText(list []float32) (string, bool) {
	return itemsText(list, MaxNumbers, hexOf)
}

// ReadNumbers returns the numbers with the given text.
func ReadNumbers(s string) ([]float32, bool) {
	return readItems(s, MaxNumbers, readHex)
}

// ComplexText returns the text of complex numbers.
func ComplexText(list []complex64) (string, bool) {
	return itemsText(list, MaxNumbers, hexPairOf)
}

// ReadComplex returns the complex numbers with the given text.
func ReadComplex(s string) ([]complex64, bool) {
	return readItems(s, MaxNumbers, readHexPair)
}

// itemsText returns the texts of at most most items, with commas between them.
func itemsText[T any](list []T, most int, textOf func(T) string) (string, bool) {
	if len(list) > most {
		return "", false
	}
	if len(list) == 0 {
		return noneText, true
	}
	texts := make([]string, len(list))
	for i, item := range list {
		texts[i] = textOf(item)
	}
	return strings.Join(texts, ","), true
}

// readItems returns the at most most items whose texts stand between commas.
func readItems[T any](s string, most int, read func(string) (T, bool)) ([]T, bool) {
	if s == noneText {
		return nil, true
	}
	texts := strings.SplitN(s, ",", most+1)
	if len(texts) > most {
		return nil, false
	}
	list := make([]T, len(texts))
	for i, text := range texts {
		item, ok := read(text)
		if !ok {
			return nil, false
		}
		list[i] = item
	}
	return list, true
}

// hexOf returns the hexadecimal digits of a number's bits.
func hexOf(x float32) string {
	digits := strconv.FormatInt(BitsOf(x), 16)
	return strings.Repeat("0", hexDigits-len(digits)) + digits
}

// hexPairOf returns the hexadecimal digits of the bits of both parts.
func hexPairOf(x complex64) string { return hexOf(real(x)) + hexOf(imag(x)) }

// readHex returns the number with the given hexadecimal digits.
func readHex(digits string) (float32, bool) {
	if len(digits) != hexDigits {
		return 0, false
	}
	bits := int64(0)
	for _, r := range digits {
		value, ok := hexValue(r)
		if !ok {
			return 0, false
		}
		bits = bits<<4 | value
	}
	x, ok := FromBits(bits)
	// The digits of other not-a-numbers are the text of no number.
	if !ok || BitsOf(x) != bits {
		return 0, false
	}
	return x, true
}

// readHexPair returns the complex number with the given hexadecimal digits.
func readHexPair(digits string) (complex64, bool) {
	if len(digits) != 2*hexDigits {
		return 0, false
	}
	a, first := readHex(digits[:hexDigits])
	b, second := readHex(digits[hexDigits:])
	if !first || !second {
		return 0, false
	}
	return complex(a, b), true
}

// hexValue returns the value of a hexadecimal digit.
func hexValue(r rune) (int64, bool) {
	switch {
	case r >= '0' && r <= '9':
		return int64(r - '0'), true
	case r >= 'a' && r <= 'f':
		return int64(r-'a') + 10, true
	}
	return 0, false
}

// IsName reports whether s is a name.
func IsName(s string) bool {
	if len(s) < 1 || len(s) > maxNameBytes {
		return false
	}
	for _, r := range s {
		if r < 'a' || r > 'z' {
			return false
		}
	}
	return true
}

// Decimal returns n in decimal.
func Decimal(n int64) string { return strconv.FormatInt(n, 10) }

// ReadDecimal returns the number with the given decimal text.
func ReadDecimal(s string) (int64, bool) {
	digits, negative := strings.CutPrefix(s, "-")
	if len(digits) > len(Decimal(MaxValue)) {
		return 0, false
	}
	n := int64(0)
	for _, r := range digits {
		if r < '0' || r > '9' {
			return 0, false
		}
		n = n*10 + int64(r-'0')
	}
	if negative {
		n = -n
	}
	// Texts without digits, with leading zeros or with -0 tell no number.
	if !isValue(n) || Decimal(n) != s {
		return 0, false
	}
	return n, true
}

// isValue reports whether n is from -MaxValue to MaxValue.
func isValue(n int64) bool { return n >= -MaxValue && n <= MaxValue }

// ListText returns the text of a list.
func ListText(list []int64) (string, bool) {
	for _, n := range list {
		if !isValue(n) {
			return "", false
		}
	}
	return itemsText(list, MaxItems, Decimal)
}

// ReadList returns the list with the given text.
func ReadList(s string) ([]int64, bool) {
	return readItems(s, MaxItems, ReadDecimal)
}

// CheckOf returns the check number of a text.
func CheckOf(start int64, s string) (int64, bool) {
	if start < 0 || start >= CheckSize {
		return 0, false
	}
	check := start
	for i := range len(s) {
		check = (919*check + int64(s[i]) + 191) % CheckSize
	}
	return check, true
}
