package tests

import (
	"fmt"
	"math"
	"testing"

	"loop.example/g01357/impl"
)

func TestSineTurns(t *testing.T) {
	for _, c := range [][2]uint32{
		{plusZero, plusZero}, {minusZero, minusZero}, {leastSub, 0x00000006}, {0x80000001, minusZero},
		{0x3e800000, plusOne}, {0x3f400000, minusOne}, {0xbe800000, minusOne}, {0xbf400000, plusOne},
		// the sign of the zero is turned from half a turn on
		{0x3f000000, minusZero}, {0xbf000000, minusZero}, {plusOne, plusZero}, {minusOne, plusZero}, {0x4a800001, minusZero},
		{0xc26951ec, 0xbf605545}, {0xc6bff235, 0xbf1b02c6}, {0xbfef2ac4, 0x3f3c4471}, {0xc5574054, 0xbe039502},
		{0xbbf4af98, 0xbd401af9}, {0xc0d6884e, 0x3f7571f2}, {0x49368a1b, 0xbf6c835e}, {0xb7559597, 0xb8a7bfae},
		// with less than 8 steps, the last bit would differ here
		{0x3e434f37, 0x3f6e7421}, {0x3e5d0d36, 0x3f7a22f0}, {0x3e5d23f5, 0x3f7a2a88},
		// and here without going back from a quarter on
		{0x3e915212, 0x3f7a3d1c}, {0x3e98b49f, 0x3f7452f9},
		{0x597fffff, plusZero}, {0x59800000, plusZero}, {0xd9800000, plusZero}, {greatest, plusZero}, {0xff7fffff, plusZero},
		{plusInfinity, notNumber}, {minusInf, notNumber},
	} {
		wantNumber(t, fmt.Sprintf("SineTurns %08x", c[0]), impl.SineTurns(number(c[0])), c[1])
	}
	for _, bits := range notNumbers() {
		wantNumber(t, fmt.Sprintf("SineTurns %08x", bits), impl.SineTurns(number(bits)), notNumber)
	}
	// a small negative number is rounded to a whole turn
	wantNumber(t, "SineTurns -1e-30", impl.SineTurns(-1e-30), minusZero)
}

func TestPhasorOf(t *testing.T) {
	minus := math.Copysign(0, -1)
	for _, c := range []struct {
		turns  float64
		re, im uint32
	}{
		{0, plusOne, plusZero}, {minus, plusOne, minusZero},
		{0.25, plusZero, plusOne}, {0.5, minusOne, plusZero}, {0.75, plusZero, minusOne}, {1, plusOne, plusZero},
		{-0.25, plusZero, minusOne}, {-0.5, minusOne, plusZero}, {-0.75, plusZero, plusOne}, {-1, plusOne, plusZero},
		{0.9046682919199611, 0x3f536ea9, 0xbf105596}, {-2.1930900001046867, 0x3eb333cf, 0xbf6fceb7},
		{0.7435148399139635, 0xbd26dafd, 0xbf7fc99a}, {-2.313925992117614, 0xbec82a09, 0xbf6ba03c},
		{-0.8978382917237431, 0x3f4d0ba7, 0x3f1945a8}, {2.948482037052422, 0x3f72b474, 0xbea2da8c},
		{2.7951926216114344, 0x3e8f703b, 0xbf75bfa2}, {-1.6534004716440809, 0xbf120394, 0x3f52469c},
		// four quarters, where a small negative number is rounded to a whole turn
		{-1e-300, plusOne, plusZero}, {-0x1p-54, plusOne, plusZero},
		{0x1p52 - 0.5, minusOne, plusZero}, {-0x1p52 + 0.5, minusOne, plusZero}, {0x1p51 + 0.5, minusOne, plusZero},
		{0x1p50 + 0.25, plusZero, plusOne}, {0x1p50 + 0.75, plusZero, minusOne},
		{0x1p52, plusOne, plusZero}, {-0x1p52, plusOne, plusZero}, {math.MaxFloat64, plusOne, plusZero}, {-math.MaxFloat64, plusOne, plusZero},
		{math.Inf(1), notNumber, notNumber}, {math.Inf(-1), notNumber, notNumber}, {math.NaN(), notNumber, notNumber},
	} {
		wantPair(t, fmt.Sprint("PhasorOf ", c.turns), impl.PhasorOf(c.turns), c.re, c.im)
	}
}

func TestAngleTurns(t *testing.T) {
	for _, c := range []struct{ y, x, angle uint32 }{
		{plusZero, plusZero, plusZero}, {minusZero, plusZero, plusZero}, {plusZero, minusZero, plusZero}, {minusZero, minusZero, plusZero},
		{plusZero, plusOne, plusZero}, {minusZero, plusOne, plusZero}, {plusZero, minusOne, 0x3f000000}, {minusZero, minusOne, 0x3f000000},
		{plusOne, plusZero, 0x3e800000}, {plusOne, minusZero, 0x3e800000}, {minusOne, plusZero, 0xbe800000}, {minusOne, minusZero, 0xbe800000},
		{plusOne, plusOne, 0x3e000000}, {plusOne, minusOne, 0x3ec00000}, {minusOne, minusOne, 0xbec00000}, {minusOne, plusOne, 0xbe000000},
		{0x3c91933b, 0x35fb5d18, 0x3e7ffb9a}, {0xbf4c8c29, 0x374f40c4, 0xbe7fff5b}, {0x41f5c9aa, 0xbf76147b, 0x3e828c76},
		{0x398f7719, 0xbf805849, 0x3efffa4f}, {0x3b16288c, 0x381772c0, 0x3e7d6e8e}, {0x42b288d0, 0x42966641, 0x3e0de7f0},
		{0xbec5a79c, 0x45abe013, 0xb73b6b4a}, {0xbffb56b6, 0x3f8d45de, 0xbe2c8b98},
		// with less than 7 steps, or a quotient of 32-bit numbers, the last bit would differ here
		{0xc2288af0, 0xc21aea60, 0xbebc91a9}, {0xc253848c, 0x4265ec0f, 0xbdf26b23}, {0xc26260ec, 0xc24da78b, 0xbebc181a},
		{0xc1c4bffe, 0x41a2aac5, 0xbe0f6895}, {0x428c0769, 0x4291ed79, 0x3df946fe}, {0x4280eefa, 0x4290f4f6, 0x3decf3e7},
		{0xc2a7aa64, 0x42934b38, 0xbe0a86d2}, {0x4294a774, 0x422e58a7, 0x3e29901b}, {0x41abc4f3, 0x42861946, 0x3d4a07ce}, {0x420486a4, 0x426b9a57, 0x3da70325},
		// quotients of 32-bit numbers would be zeros or infinities
		{leastSub, greatest, plusZero}, {0x80000001, greatest, minusZero}, {0x80000001, 0xff7fffff, 0xbf000000},
		{greatest, leastSub, 0x3e800000}, {leastSub, leastSub, 0x3e000000}, {greatest, greatest, 0x3e000000},
	} {
		wantNumber(t, fmt.Sprintf("AngleTurns %08x %08x", c.y, c.x), impl.AngleTurns(number(c.y), number(c.x)), c.angle)
		wantNumber(t, fmt.Sprintf("AngleOf %08x + %08x i", c.x, c.y), impl.AngleOf(pair(c.x, c.y)), c.angle)
	}
	for _, bits := range append(notNumbers(), plusInfinity, minusInf) {
		for _, other := range edges() {
			for _, x := range []complex64{pair(bits, other), pair(other, bits)} {
				wantNumber(t, fmt.Sprint("AngleOf ", x), impl.AngleOf(x), notNumber)
				wantNumber(t, fmt.Sprint("AngleTurns of ", x), impl.AngleTurns(imag(x), real(x)), notNumber)
			}
		}
	}
}

func TestAnglesLeadBack(t *testing.T) {
	want(t, "the phasor of 0.25 turns", impl.PhasorOf(0.25), complex(0, 1))
	want(t, "the angle of i", impl.AngleOf(complex(0, 1)), 0.25)
	for i := -63; i <= 64; i++ {
		turns := float64(i) / 128
		if got := impl.AngleOf(impl.PhasorOf(turns)); math.Abs(float64(got)-turns) > 1e-7 {
			t.Errorf("AngleOf PhasorOf %v: got %v", turns, got)
		}
	}
}
