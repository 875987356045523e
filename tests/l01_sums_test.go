package tests

import (
	"testing"

	"loop.example/g01357/impl"
)

func TestSumNumbers(t *testing.T) {
	for _, c := range []struct {
		list []float32
		sum  uint32
	}{
		{nil, plusZero}, {[]float32{}, plusZero}, {numbers(minusZero), plusZero}, {numbers(minusZero, minusZero), plusZero},
		{[]float32{1, 2, 3.5}, 0x40d00000},
		// each sum is rounded, and their order matters
		{[]float32{0x1p24, 1, 1}, 0x4b800000}, {[]float32{1, 1, 0x1p24}, 0x4b800001}, {[]float32{0x1p24, 1, -0x1p24}, plusZero},
		{numbers(0x42775814, 0xbfef987b, 0x42273371, 0x3fadef33, 0x3e2cc84f), 0x42ce9581},
		{numbers(0x3f4b7324, 0x383f944c, 0x425af03f, 0xc28fac41, 0x34f18af3), 0xc18274d4},
		{numbers(greatest, greatest), plusInfinity}, {numbers(leastSub, greatestSub), leastNormal},
		{numbers(plusInfinity, minusInf), notNumber}, {numbers(plusOne, 0xff800001), notNumber},
	} {
		sum, ok := impl.SumNumbers(c.list)
		want(t, "SumNumbers succeeds", ok, true)
		wantNumber(t, "SumNumbers", sum, c.sum)
	}
}

func TestDotNumbers(t *testing.T) {
	for _, c := range []struct {
		a, b []float32
		sum  uint32
	}{
		{nil, nil, plusZero}, {nil, []float32{}, plusZero}, {[]float32{1, 2}, []float32{3, 4}, 0x41300000},
		{numbers(minusZero), numbers(plusOne), plusZero},
		// products are rounded before they are added
		{numbers(0xbf07fb6e, 0x4256dc88, 0xbfa89513, 0xbef087c6), numbers(0xc20004a2, 0x3bc4fa1b, 0x3f2f8bd9, 0x4296e754), 0xc19835c9},
		{numbers(0xc14baa77, 0xc2a2e992, 0x3fbe2121, 0xc2a412ab), numbers(0x42847ff2, 0xc16e00f0, 0xbf7deba2, 0xbf08649d), 0x43cd4e3e},
		{[]float32{-1, 1 + 0x1p-23}, []float32{1, 1 - 0x1p-23}, plusZero},
		{numbers(greatest, greatest), []float32{2, -2}, notNumber}, {numbers(leastSub, leastSub), []float32{0.5, 0.5}, plusZero},
		{numbers(plusInfinity), numbers(plusZero), notNumber}, {numbers(notNumber), numbers(plusZero), notNumber},
	} {
		sum, ok := impl.DotNumbers(c.a, c.b)
		want(t, "DotNumbers succeeds", ok, true)
		wantNumber(t, "DotNumbers", sum, c.sum)
	}
}

func TestSumComplex(t *testing.T) {
	for _, c := range []struct {
		list   []complex64
		re, im uint32
	}{
		{nil, plusZero, plusZero}, {pairs(minusZero, minusZero), plusZero, plusZero},
		{[]complex64{1, complex(2, 3)}, 0x40400000, 0x40400000},
		{[]complex64{complex(0x1p24, 1), complex(1, 1), complex(1, 0x1p24)}, 0x4b800000, 0x4b800001},
		{pairs(greatest, plusInfinity, greatest, minusInf), plusInfinity, notNumber},
		{pairs(notNumber, plusOne), notNumber, plusOne}, {pairs(plusOne, 0xff800001), plusOne, notNumber},
	} {
		sum, ok := impl.SumComplex(c.list)
		want(t, "SumComplex succeeds", ok, true)
		wantPair(t, "SumComplex", sum, c.re, c.im)
	}
}

func TestDotComplex(t *testing.T) {
	for _, c := range []struct {
		a, b   []complex64
		re, im uint32
	}{
		{nil, nil, plusZero, plusZero}, {pairs(minusZero, minusZero), []complex64{1}, plusZero, plusZero},
		{[]complex64{complex(0, 1)}, []complex64{complex(0, 1)}, minusOne, plusZero},
		// each product is narrowed before it is added
		{pairs(0x4274df21, 0xbddc1965, 0xbfd373c1, 0xc2b2fe64, 0x4282c0ab, 0x3cf0ad1a), pairs(0x42c26dcd, 0x3fd6c9c7, 0x420e6e01, 0x3f9185de, 0xbf8da829, 0xc258289b), 0x45b91cdb, 0xc5cf2a62},
		{pairs(0x42540bdc, 0x3fbfb703, 0x428c6c5d, 0x3898c125, 0xc28b930d, 0xb8e66cfa), pairs(0xbf477ac9, 0xc21a67f0, 0xbda115df, 0x3f87501c, 0x35141f06, 0x42ad72e2), 0x412fee29, 0xc5facc30},
		{pairs(greatest, plusZero, greatest, plusZero), []complex64{2, -2}, notNumber, plusZero},
		{pairs(plusOne, notNumber), []complex64{1}, notNumber, notNumber},
	} {
		sum, ok := impl.DotComplex(c.a, c.b)
		want(t, "DotComplex succeeds", ok, true)
		wantPair(t, "DotComplex", sum, c.re, c.im)
	}
}

func TestDotConjugate(t *testing.T) {
	for _, c := range []struct {
		a, b   []complex64
		re, im uint32
	}{
		{nil, nil, plusZero, plusZero}, {[]complex64{complex(0, 1)}, []complex64{complex(0, 1)}, plusOne, plusZero},
		// the conjugates are those of the former numbers
		{[]complex64{complex(0, 1)}, []complex64{1}, plusZero, minusOne}, {[]complex64{1}, []complex64{complex(0, 1)}, plusZero, plusOne},
		// each product is narrowed before it is added
		{pairs(0xc219f828, 0x3a46a09e, 0x4524608c, 0xbfddbff9, 0x41dec92d, 0x42a7fc35), pairs(0xc26190fd, 0xc6b52b22, 0x4296027a, 0xbe91313d, 0xc2b4dd36, 0xc11151d7), 0x483f8a68, 0x495b9139},
		{pairs(0x414c809a, 0xc1e84e43, 0xc273f5c0, 0xc0a43c35, 0xb81eaadc, 0x3f950d77), pairs(0xbd912090, 0xc1faf709, 0xbfd624be, 0xc2b3f22d, 0xc510a3ce, 0x3e781fb6), 0x44b84709, 0x45f2d5ba},
		{pairs(notNumber, plusOne), []complex64{1}, notNumber, notNumber},
	} {
		sum, ok := impl.DotConjugate(c.a, c.b)
		want(t, "DotConjugate succeeds", ok, true)
		wantPair(t, "DotConjugate", sum, c.re, c.im)
	}
}

func TestPowersOf(t *testing.T) {
	for _, c := range []struct {
		list []complex64
		sum  uint32
	}{
		{nil, plusZero}, {[]complex64{complex(3, 4), 1}, 0x41d00000}, {pairs(minusZero, minusZero), plusZero},
		// only the sum of all is narrowed
		{pairs(0x3ec83025, 0x426938eb, 0x3f70fe2c, 0xc0edde4e, 0xbf13021b, 0x37d85f32, 0xbd377181, 0x47c0237f), 0x50103547},
		{pairs(0xbfcbb67a, 0xbfff5639, 0x41c36ffe, 0xc2b3f293, 0xc289445b, 0x3fc0b4d2, 0xc194eee6, 0xc1157ee1), 0x4658553b},
		{[]complex64{0x1p12, 1, 1}, 0x4b800001},
		{pairs(greatest, plusZero), plusInfinity}, {pairs(minusInf, plusZero), plusInfinity}, {pairs(plusInfinity, notNumber), notNumber},
	} {
		sum, ok := impl.PowersOf(c.list)
		want(t, "PowersOf succeeds", ok, true)
		wantNumber(t, "PowersOf", sum, c.sum)
	}
}

// ones returns lists of n ones.
func ones(n int) ([]float32, []complex64) {
	list, both := make([]float32, n), make([]complex64, n)
	for i := range n {
		list[i], both[i] = 1, complex(1, 1)
	}
	return list, both
}

func TestSumsOfTheLongestLists(t *testing.T) {
	list, both := ones(256)
	sum, ok := impl.SumNumbers(list)
	want(t, "SumNumbers of 256 succeeds", ok, true)
	want(t, "SumNumbers of 256", sum, 256)
	sum, ok = impl.DotNumbers(list, list)
	want(t, "DotNumbers of 256 succeeds", ok, true)
	want(t, "DotNumbers of 256", sum, 256)
	sum, ok = impl.PowersOf(both)
	want(t, "PowersOf 256 succeeds", ok, true)
	want(t, "PowersOf 256", sum, 512)
	total, ok := impl.SumComplex(both)
	want(t, "SumComplex of 256 succeeds", ok, true)
	want(t, "SumComplex of 256", total, complex(256, 256))
	total, ok = impl.DotComplex(both, both)
	want(t, "DotComplex of 256 succeeds", ok, true)
	want(t, "DotComplex of 256", total, complex(0, 512))
	total, ok = impl.DotConjugate(both, both)
	want(t, "DotConjugate of 256 succeeds", ok, true)
	want(t, "DotConjugate of 256", total, complex(512, 0))
}

func TestSumsOfListsThatAreTooLong(t *testing.T) {
	for _, n := range []int{257, 1000} {
		list, both := ones(n)
		sum, ok := impl.SumNumbers(list)
		wantFailure(t, "SumNumbers", sum, ok)
		sum, ok = impl.DotNumbers(list, list)
		wantFailure(t, "DotNumbers", sum, ok)
		sum, ok = impl.PowersOf(both)
		wantFailure(t, "PowersOf", sum, ok)
		total, ok := impl.SumComplex(both)
		wantFailure(t, "SumComplex", total, ok)
		total, ok = impl.DotComplex(both, both)
		wantFailure(t, "DotComplex", total, ok)
		total, ok = impl.DotConjugate(both, both)
		wantFailure(t, "DotConjugate", total, ok)
	}
}

func TestProductsOfListsOfDifferentLength(t *testing.T) {
	for _, c := range [][2]int{{0, 1}, {1, 0}, {2, 3}, {256, 255}, {256, 257}, {257, 256}} {
		list, both := ones(c[0])
		other, others := ones(c[1])
		sum, ok := impl.DotNumbers(list, other)
		wantFailure(t, "DotNumbers", sum, ok)
		total, ok := impl.DotComplex(both, others)
		wantFailure(t, "DotComplex", total, ok)
		total, ok = impl.DotConjugate(both, others)
		wantFailure(t, "DotConjugate", total, ok)
	}
}
