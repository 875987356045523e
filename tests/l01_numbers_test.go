package tests

import (
	"fmt"
	"math"
	"testing"

	"loop.example/g01357/impl"
)

func TestLimitsOfChapter1(t *testing.T) {
	want(t, "limits", [4]int64{impl.MaxNumbers, impl.MaxValue, impl.MaxItems, impl.CheckSize}, [4]int64{256, 1000000000000000, 64, 65003})
}

func TestSameNumber(t *testing.T) {
	for _, a := range edges() {
		for _, b := range edges() {
			same := bitsOf(number(a)) == bitsOf(number(b))
			want(t, fmt.Sprintf("SameNumber %08x %08x", a, b), impl.SameNumber(number(a), number(b)), same)
			for _, c := range []uint32{plusZero, minusZero, plusOne, 0xffc12345} {
				want(t, fmt.Sprintf("SameComplex %08x %08x, %08x", a, c, b), impl.SameComplex(pair(a, c), pair(b, c)), same)
				want(t, fmt.Sprintf("SameComplex %08x, %08x %08x", c, a, b), impl.SameComplex(pair(c, a), pair(c, b)), same)
			}
		}
	}
}

func TestIsFinite(t *testing.T) {
	for _, a := range edges() {
		finite := a&plusInfinity != plusInfinity
		want(t, fmt.Sprintf("IsFinite %08x", a), impl.IsFinite(number(a)), finite)
		for _, b := range edges() {
			both := finite && b&plusInfinity != plusInfinity
			want(t, fmt.Sprintf("IsFiniteComplex %08x %08x", a, b), impl.IsFiniteComplex(pair(a, b)), both)
		}
	}
}

func TestBitsAreReadBack(t *testing.T) {
	for _, a := range edges() {
		want(t, fmt.Sprintf("BitsOf %08x", a), impl.BitsOf(number(a)), int64(bitsOf(number(a))))
	}
	for n := int64(0); n <= math.MaxUint32; n += 65521 {
		x, ok := impl.FromBits(n)
		if !ok || bitsOf(x) != bitsOf(number(uint32(n))) {
			t.Fatalf("FromBits %d: got %v, %v", n, x, ok)
		}
		if impl.BitsOf(x) != int64(bitsOf(x)) {
			t.Fatalf("BitsOf FromBits %d: got %d", n, impl.BitsOf(x))
		}
	}
}

func TestFromBitsAtLimits(t *testing.T) {
	zero, ok := impl.FromBits(0)
	want(t, "FromBits 0", ok, true)
	wantNumber(t, "FromBits 0", zero, plusZero)
	last, ok := impl.FromBits(4294967295)
	want(t, "FromBits 4294967295", ok, true)
	wantNumber(t, "FromBits 4294967295", last, notNumber)
	for _, n := range []int64{-1, 4294967296, 4294967296 + plusOne, math.MinInt64, math.MaxInt64} {
		x, ok := impl.FromBits(n)
		wantFailure(t, fmt.Sprint("FromBits ", n), x, ok)
	}
}

func TestNarrowNumber(t *testing.T) {
	for _, c := range []struct {
		x    float64
		bits uint32
	}{
		{0, plusZero}, {math.Copysign(0, -1), minusZero}, {0.5, 0x3f000000}, {0.1, 0x3dcccccd},
		{1 + 0x1p-24, plusOne},      // a tie goes to the even number below
		{1 + 3*0x1p-24, 0x3f800002}, // a tie goes to the even number above
		{1 + 0x1p-24 + 0x1p-52, 0x3f800001},
		{0x1p-150, plusZero}, {-0x1p-150, minusZero}, // ties between zero and the least one
		{0x1.8p-149, 0x00000002}, {0x1p-150 + 0x1p-200, leastSub},
		{0x1p-126 - 0x1p-149, greatestSub}, {0x1p-126 - 0x1p-150, leastNormal},
		{0x1.fffffep127, greatest}, {0x1.fffffefffffffp127, greatest}, {0x1.ffffffp127, plusInfinity}, {-0x1.ffffffp127, minusInf},
		{math.Inf(1), plusInfinity}, {math.Inf(-1), minusInf}, {math.NaN(), notNumber}, {1e300, plusInfinity}, {1e-300, plusZero},
	} {
		wantNumber(t, fmt.Sprint("NarrowNumber ", c.x), impl.NarrowNumber(c.x), c.bits)
		wantPair(t, fmt.Sprint("NarrowComplex ", c.x, " and 3"), impl.NarrowComplex(complex(c.x, 3)), c.bits, 0x40400000)
		wantPair(t, fmt.Sprint("NarrowComplex 3 and ", c.x), impl.NarrowComplex(complex(3, c.x)), 0x40400000, c.bits)
	}
}

func TestSubnormalNumbers(t *testing.T) {
	for _, a := range edges() {
		size := a & 0x7fffffff
		sub := size != 0 && size < leastNormal
		flushed := bitsOf(number(a))
		if sub {
			flushed = a & minusZero
		}
		want(t, fmt.Sprintf("IsSubnormal %08x", a), impl.IsSubnormal(number(a)), sub)
		wantNumber(t, fmt.Sprintf("FlushNumber %08x", a), impl.FlushNumber(number(a)), flushed)
	}
}

func TestProductsOfSmallIntegersAreExact(t *testing.T) {
	for a := -9; a <= 9; a++ {
		for b := -9; b <= 9; b++ {
			for c := -9; c <= 9; c++ {
				for d := -9; d <= 9; d++ {
					x, y := complex(float32(a), float32(b)), complex(float32(c), float32(d))
					if got := impl.MulComplex(x, y); got != complex(float32(a*c-b*d), float32(a*d+b*c)) {
						t.Fatalf("MulComplex %v %v: got %v", x, y, got)
					}
				}
				x, y := complex(float32(a), float32(b)), float32(c)
				if got := impl.ScaleComplex(x, y); got != complex(float32(a*c), float32(b*c)) {
					t.Fatalf("ScaleComplex %v %v: got %v", x, y, got)
				}
			}
		}
	}
}

func TestMulComplex(t *testing.T) {
	want(t, "the product of 1 + 2 i and 3 - i", impl.MulComplex(complex(1, 2), complex(3, -1)), complex(5, 5))
	for _, c := range [][6]uint32{
		// 32-bit products would differ here in their last bits.
		{0xc20b466c, 0x38e40297, 0x3dfddc48, 0xbfa79682, 0xc08a1b46, 0x423659a8},
		{0x3bd0d868, 0xbb5b3221, 0x3e762fce, 0x3fadd139, 0x3bc709c2, 0x3c00a03c},
		{0x3f73dd75, 0xbc8938c6, 0xbf79d0cd, 0x428109e1, 0x3e1ac93e, 0x4275e8bf},
		{0xbf9483ba, 0x40ae822d, 0xbb2bb2ac, 0x3d796ac7, 0xbea876f9, 0xbdadf4c2},
		// 32-bit products would be too great, or zeros.
		{greatest, greatest, 0x40000000, 0x40000000, plusZero, plusInfinity},
		{leastSub, plusZero, 0x3f000000, plusZero, plusZero, plusZero},
		{leastSub, leastSub, 0x3f000000, 0x3f000000, plusZero, leastSub},
		// zeros with signs
		{minusZero, plusZero, plusOne, plusZero, minusZero, plusZero},
		{minusZero, plusZero, plusOne, minusZero, plusZero, plusZero},
		{minusZero, minusZero, plusOne, plusZero, plusZero, minusZero},
		// infinities and not-a-numbers
		{plusInfinity, plusZero, plusOne, plusZero, plusInfinity, notNumber},
		{plusInfinity, plusOne, plusOne, plusOne, plusInfinity, plusInfinity},
		{plusInfinity, plusInfinity, plusOne, plusOne, notNumber, plusInfinity},
		{notNumber, plusOne, plusOne, plusOne, notNumber, notNumber},
		{0xffc12345, plusOne, plusZero, plusOne, notNumber, notNumber},
	} {
		x, y := pair(c[0], c[1]), pair(c[2], c[3])
		wantPair(t, fmt.Sprint("MulComplex ", x, y), impl.MulComplex(x, y), c[4], c[5])
		wantPair(t, fmt.Sprint("MulComplex ", y, x), impl.MulComplex(y, x), c[4], c[5])
	}
}

func TestScaleComplex(t *testing.T) {
	want(t, "half of 1 + 2 i", impl.ScaleComplex(complex(1, 2), 0.5), complex(0.5, 1))
	for _, c := range [][5]uint32{
		{plusOne, minusOne, minusZero, minusZero, plusZero},
		{greatest, 0xff7fffff, 0x40000000, plusInfinity, minusInf},
		{leastSub, 0x80000003, 0x3f000000, plusZero, 0x80000002},
		{plusInfinity, plusZero, plusZero, notNumber, plusZero},
		{plusInfinity, plusZero, minusInf, minusInf, notNumber},
		{plusOne, plusZero, notNumber, notNumber, notNumber},
	} {
		wantPair(t, fmt.Sprintf("ScaleComplex %08x", c), impl.ScaleComplex(pair(c[0], c[1]), number(c[2])), c[3], c[4])
	}
}

func TestConjugateOf(t *testing.T) {
	for _, a := range edges() {
		for _, b := range edges() {
			opposite := bitsOf(number(b ^ minusZero))
			wantPair(t, fmt.Sprintf("ConjugateOf %08x %08x", a, b), impl.ConjugateOf(pair(a, b)), bitsOf(number(a)), opposite)
		}
	}
}

func TestPowerAndLength(t *testing.T) {
	want(t, "the power of 3 + 4 i", impl.PowerOf(complex(3, 4)), 25)
	want(t, "the length of 3 - 4 i", impl.LongOf(complex(3, -4)), 5)
	for _, c := range []struct{ re, im, power, long uint32 }{
		// 32-bit numbers on the way would differ here in their last bits.
		{0x3fc1a94d, 0xc45d63b8, 0x493f7577, 0x445d63cd},
		{0x3f232679, 0x41f9a842, 0x447392bd, 0x41f9b595},
		{0x3f670f1e, 0x45960389, 0x4bafd04a, 0x45960389},
		{0xbff24e16, 0xbe9d74ee, 0x406b6543, 0x3ff57b51},
		{0xc2b7cf43, 0x41bc3dd1, 0x460ca0a7, 0x42bdbd07},
		{0xc2ce9053, 0xbe89219c, 0x4626ace0, 0x42ce9081},
		{plusZero, minusZero, plusZero, plusZero}, {minusZero, minusZero, plusZero, plusZero},
		{leastSub, plusZero, plusZero, leastSub}, {leastNormal, leastNormal, plusZero, 0x00b504f3},
		{greatest, plusZero, plusInfinity, greatest}, {greatest, greatest, plusInfinity, plusInfinity},
		{0x7e967699, 0x7f000000, plusInfinity, 0x7f1478b7},
		{minusInf, plusOne, plusInfinity, plusInfinity}, {plusOne, plusInfinity, plusInfinity, plusInfinity},
		{notNumber, plusOne, notNumber, notNumber}, {plusInfinity, 0xffc12345, notNumber, notNumber},
	} {
		x := pair(c.re, c.im)
		wantNumber(t, fmt.Sprint("PowerOf ", x), impl.PowerOf(x), c.power)
		wantNumber(t, fmt.Sprint("LongOf ", x), impl.LongOf(x), c.long)
	}
}

func TestQuotientOf(t *testing.T) {
	want(t, "the quotient of 4 i and 2", impl.QuotientOf(complex(0, 4), 2), complex(0, 2))
	for _, c := range [][6]uint32{
		// 32-bit numbers on the way would differ here in their last bits.
		{0x428db870, 0xc1dad580, 0x45add573, 0xbdfce449, 0x3c50b59c, 0xbba12040},
		{0x4418cdfc, 0x429c96fa, 0xbf87ce44, 0xb81554ed, 0xc41005c1, 0xc2938cfe},
		{0xbfb77cbe, 0x421552a4, 0x42171e97, 0x3e5638d9, 0xbd05001a, 0x3f7d009e},
		{0xb6c08552, 0xc81898c8, 0xc128a472, 0xbf273f32, 0x4464d8c3, 0x4666c197},
		// 32-bit powers would be too great, or zeros.
		{greatest, plusZero, greatest, plusZero, plusOne, plusZero},
		{leastSub, plusZero, leastSub, plusZero, plusOne, plusZero},
		{leastSub, leastSub, leastSub, leastSub, plusOne, plusZero},
		// zero divides as IEEE 754 has it
		{plusOne, minusOne, plusZero, plusZero, notNumber, notNumber},
		{plusZero, plusZero, plusZero, plusZero, notNumber, notNumber},
		// zeros with signs
		{plusZero, plusZero, plusOne, plusZero, plusZero, plusZero},
		{plusOne, plusZero, plusOne, plusZero, plusOne, plusZero},
		{plusOne, minusZero, plusOne, plusZero, plusOne, minusZero},
		// infinities and not-a-numbers
		{plusOne, plusOne, plusInfinity, plusZero, notNumber, notNumber},
		{plusInfinity, plusOne, plusOne, plusOne, plusInfinity, minusInf},
		{plusOne, notNumber, plusOne, plusOne, notNumber, notNumber},
	} {
		x, y := pair(c[0], c[1]), pair(c[2], c[3])
		wantPair(t, fmt.Sprint("QuotientOf ", x, y), impl.QuotientOf(x, y), c[4], c[5])
	}
}

func TestRootNumber(t *testing.T) {
	for i := range 100 {
		want(t, "RootNumber of a square", impl.RootNumber(float32(i*i)), float32(i))
	}
	for _, c := range [][2]uint32{
		{0x40000000, 0x3fb504f3}, {plusZero, plusZero}, {minusZero, minusZero}, {leastSub, 0x1a3504f3},
		{greatest, 0x5f7fffff}, {plusInfinity, plusInfinity}, {minusInf, notNumber}, {minusOne, notNumber},
		{0x80000001, notNumber}, {notNumber, notNumber}, {0xff800001, notNumber},
	} {
		wantNumber(t, fmt.Sprintf("RootNumber %08x", c[0]), impl.RootNumber(number(c[0])), c[1])
	}
}

func TestTenthsOf(t *testing.T) {
	for _, c := range []struct {
		bits   uint32
		tenths int64
	}{
		{plusOne, 0}, {0x40000000, 30}, {0x41200000, 100}, {0x3f000000, -30}, {0x3fc00000, 18}, {0x3f400000, -12},
		// the least power of each number of tenths, and the one before it
		{0x2ed96298, -1000}, {0x2ed96297, -1001}, {0x3a7d3e94, -301}, {0x3a7d3e93, -302},
		{0x3f774f1d, -1}, {0x3f774f1c, -2}, {0x3f7d11d1, 0}, {0x3f7d11d0, -1}, {0x3f817b70, 1}, {0x3f817b6f, 0},
		{0x3ffc785a, 30}, {0x3ffc7859, 29}, {0x45dab35d, 385}, {0x45dab35c, 384},
		{leastSub, -4485}, {greatestSub, -3793}, {greatest, 3853},
	} {
		tenths, ok := impl.TenthsOf(number(c.bits))
		want(t, fmt.Sprintf("TenthsOf %08x succeeds", c.bits), ok, true)
		want(t, fmt.Sprintf("TenthsOf %08x", c.bits), tenths, c.tenths)
	}
	for _, bits := range append(notNumbers(), plusZero, minusZero, minusOne, 0x80000001, plusInfinity, minusInf) {
		tenths, ok := impl.TenthsOf(number(bits))
		wantFailure(t, fmt.Sprintf("TenthsOf %08x", bits), tenths, ok)
	}
}

func TestLogNumber(t *testing.T) {
	for _, c := range [][2]uint32{
		{plusOne, plusZero}, {0x40000000, 0x3f317218}, {0x3f000000, 0xbf317218}, {0x41200000, 0x40135d8e},
		{0x3fc00000, 0x3ecf991f}, {0x3f400000, 0xbe934b11},
		{0x3c39a163, 0xc08f5ea4}, {0x42b87575, 0x4090c6e5}, {0x42a9549c, 0x408e09e0},
		{0x3e83a30f, 0xbfaddc04}, {0x423294ad, 0x40731eaa}, {0x48386a78, 0x414260ef},
		// with less than 9 steps, the last bit would differ here
		{0x3f3af7ef, 0xbea0e3b7}, {0x3f3f5ec0, 0xbe94f9c5}, {0x3f301ce8, 0xbebf83c1}, {0x3f31ed21, 0xbeba450e}, {0x3f2355cb, 0xbee61443},
		{leastSub, 0xc2ce8ed0}, {greatest, 0x42b17218},
		{plusZero, minusInf}, {minusZero, minusInf}, {plusInfinity, plusInfinity},
		{minusInf, notNumber}, {minusOne, notNumber}, {0x80000001, notNumber},
	} {
		wantNumber(t, fmt.Sprintf("LogNumber %08x", c[0]), impl.LogNumber(number(c[0])), c[1])
	}
	for _, bits := range notNumbers() {
		wantNumber(t, fmt.Sprintf("LogNumber %08x", bits), impl.LogNumber(number(bits)), notNumber)
	}
}

func TestExpNumber(t *testing.T) {
	for _, c := range [][2]uint32{
		{plusZero, plusOne}, {minusZero, plusOne}, {leastSub, plusOne}, {plusOne, 0x402df854}, {minusOne, 0x3ebc5ab2},
		{0x4193bbb0, 0x4cc7b4d1}, {0x410eb6d0, 0x45e9aab2}, {0xc077f89b, 0x3caa18a6},
		{0x40cc59e2, 0x44145d86}, {0x41029bb3, 0x455b4bda}, {0x4183710b, 0x4b507ad0},
		// here the told steps lead to another number than the exact one
		{0x3f0d642e, 0x3fde5e94}, {0x3f5bc24c, 0x4017016c}, {0x3f6064d8, 0x4019c3b2},
		// with less than 12 steps, the last bit would differ here
		{0x42b0f783, 0x7f497e78}, {0x42b15b16, 0x7f74c035}, {0x42b16ee3, 0x7f7e66cd}, {0x42b16f9a, 0x7f7ec1cb},
		{0x42b17217, 0x7f7fff84}, {0x42b17218, plusInfinity}, {0xc2aecccd, 0x00782140}, {0xc2cfcccd, leastSub}, {0xc2cff5c3, plusZero},
		{0x43480000, plusInfinity}, {0x43480001, plusInfinity}, {0xc3480000, plusZero}, {0xc3480001, plusZero},
		{0x44fa0000, plusInfinity}, {0xc4fa0000, plusZero}, {0xc59c4000, plusZero}, {0xc69c3e00, plusZero},
		{greatest, plusInfinity}, {0xff7fffff, plusZero}, {plusInfinity, plusInfinity}, {minusInf, plusZero},
	} {
		wantNumber(t, fmt.Sprintf("ExpNumber %08x", c[0]), impl.ExpNumber(number(c[0])), c[1])
	}
	for _, bits := range notNumbers() {
		wantNumber(t, fmt.Sprintf("ExpNumber %08x", bits), impl.ExpNumber(number(bits)), notNumber)
	}
}
