package tests

import (
	"math"
	"testing"
)

// Bits of the numbers at which rules change.
const (
	plusZero     = 0x00000000
	minusZero    = 0x80000000
	leastSub     = 0x00000001
	greatestSub  = 0x007fffff
	leastNormal  = 0x00800000
	plusOne      = 0x3f800000
	minusOne     = 0xbf800000
	greatest     = 0x7f7fffff
	plusInfinity = 0x7f800000
	minusInf     = 0xff800000
	notNumber    = 0x7fc00000
)

// notNumbers are the bits of some not-a-numbers, quiet and signalling ones.
func notNumbers() []uint32 {
	return []uint32{notNumber, 0x7fc00001, 0x7f800001, 0xff800001, 0xffc00000, 0xffffffff}
}

// edges are the bits of numbers of all kinds.
func edges() []uint32 {
	return append([]uint32{plusZero, minusZero, leastSub, 0x80000001, greatestSub, 0x807fffff, leastNormal, 0x80800000, plusOne, minusOne, greatest, 0xff7fffff, plusInfinity, minusInf}, notNumbers()...)
}

// number returns the number with some bits.
func number(bits uint32) float32 { return math.Float32frombits(bits) }

// numbers returns the numbers with some bits.
func numbers(bits ...uint32) []float32 {
	list := make([]float32, len(bits))
	for i, b := range bits {
		list[i] = number(b)
	}
	return list
}

// pair returns the complex number whose parts have some bits.
func pair(a, b uint32) complex64 { return complex(number(a), number(b)) }

// pairs returns the complex numbers whose parts have some bits.
func pairs(bits ...uint32) []complex64 {
	list := make([]complex64, 0, len(bits)/2)
	for i := 0; i+1 < len(bits); i += 2 {
		list = append(list, pair(bits[i], bits[i+1]))
	}
	return list
}

// bitsOf returns the bits of a number, notNumber for all not-a-numbers.
func bitsOf(x float32) uint32 {
	if x != x {
		return notNumber
	}
	return math.Float32bits(x)
}

func wantNumber(t *testing.T, what string, got float32, want uint32) {
	t.Helper()
	if bitsOf(got) != want {
		t.Errorf("%s: got %08x (%v), want %08x", what, bitsOf(got), got, want)
	}
}

func wantPair(t *testing.T, what string, got complex64, re, im uint32) {
	t.Helper()
	if bitsOf(real(got)) != re || bitsOf(imag(got)) != im {
		t.Errorf("%s: got %08x %08x %v, want %08x %08x", what, bitsOf(real(got)), bitsOf(imag(got)), got, re, im)
	}
}

func want[T comparable](t *testing.T, what string, got, expected T) {
	t.Helper()
	if got != expected {
		t.Errorf("%s: got %v, want %v", what, got, expected)
	}
}

// wantFailure checks that a function failed with a zero value.
func wantFailure[T comparable](t *testing.T, what string, got T, ok bool) {
	t.Helper()
	var zero T
	if ok || got != zero {
		t.Errorf("%s: got %v, %v, want a failure", what, got, ok)
	}
}

// wantListFailure checks that a function failed without a list.
func wantListFailure[T any](t *testing.T, what string, got []T, ok bool) {
	t.Helper()
	if ok || len(got) != 0 {
		t.Errorf("%s: got %v, %v, want a failure", what, got, ok)
	}
}
