package tests

import (
	"fmt"
	"math"
	"slices"
	"strings"
	"testing"

	"loop.example/g01357/impl"
)

func TestNumbersText(t *testing.T) {
	for _, c := range []struct {
		list []float32
		text string
	}{
		{nil, "none"}, {[]float32{}, "none"}, {[]float32{1}, "3f800000"}, {[]float32{1, -2}, "3f800000,c0000000"},
		{numbers(plusZero, minusZero, leastSub, 0xff7fffff, plusInfinity, minusInf), "00000000,80000000,00000001,ff7fffff,7f800000,ff800000"},
		{numbers(notNumbers()...), "7fc00000,7fc00000,7fc00000,7fc00000,7fc00000,7fc00000"},
	} {
		text, ok := impl.NumbersText(c.list)
		want(t, "NumbersText succeeds", ok, true)
		want(t, "NumbersText", text, c.text)
		wantNumbersRead(t, text, c.list)
	}
}

func wantNumbersRead(t *testing.T, text string, list []float32) {
	t.Helper()
	read, ok := impl.ReadNumbers(text)
	if !ok || !slices.EqualFunc(read, list, func(a, b float32) bool { return bitsOf(a) == bitsOf(b) }) {
		t.Errorf("ReadNumbers %q: got %v, %v, want %v", text, read, ok, list)
	}
}

func TestComplexText(t *testing.T) {
	for _, c := range []struct {
		list []complex64
		text string
	}{
		{nil, "none"}, {[]complex64{}, "none"}, {[]complex64{1}, "3f80000000000000"},
		{[]complex64{1, complex(0, -2)}, "3f80000000000000,00000000c0000000"},
		{pairs(minusZero, leastSub, plusInfinity, 0xff800001), "8000000000000001,7f8000007fc00000"},
	} {
		text, ok := impl.ComplexText(c.list)
		want(t, "ComplexText succeeds", ok, true)
		want(t, "ComplexText", text, c.text)
		wantComplexRead(t, text, c.list)
	}
}

func wantComplexRead(t *testing.T, text string, list []complex64) {
	t.Helper()
	read, ok := impl.ReadComplex(text)
	same := func(a, b complex64) bool {
		return bitsOf(real(a)) == bitsOf(real(b)) && bitsOf(imag(a)) == bitsOf(imag(b))
	}
	if !ok || !slices.EqualFunc(read, list, same) {
		t.Errorf("ReadComplex %q: got %v, %v, want %v", text, read, ok, list)
	}
}

func TestTextsOfTheLongestLists(t *testing.T) {
	list, both := ones(256)
	text, ok := impl.NumbersText(list)
	want(t, "NumbersText of 256 succeeds", ok, true)
	want(t, "NumbersText of 256", text, strings.Repeat("3f800000,", 255)+"3f800000")
	wantNumbersRead(t, text, list)
	longer, ok := impl.ReadNumbers(text + ",3f800000")
	wantListFailure(t, "ReadNumbers of 257", longer, ok)
	text, ok = impl.ComplexText(both)
	want(t, "ComplexText of 256 succeeds", ok, true)
	want(t, "ComplexText of 256", text, strings.Repeat("3f8000003f800000,", 255)+"3f8000003f800000")
	wantComplexRead(t, text, both)
	longerBoth, ok := impl.ReadComplex(text + ",3f8000003f800000")
	wantListFailure(t, "ReadComplex of 257", longerBoth, ok)
	list, both = ones(257)
	text, ok = impl.NumbersText(list)
	wantFailure(t, "NumbersText of 257", text, ok)
	text, ok = impl.ComplexText(both)
	wantFailure(t, "ComplexText of 257", text, ok)
}

// spoiled returns texts near to that of an item, which no list has.
func spoiled(item string) []string {
	return []string{"", ",", "none,", ",none", "none,none", "None", "nonenone", " " + item, item + " ", item + "\n", item + ",", "," + item,
		item + ",,,", item + ",none", item + "," + item[1:], item + ";" + item, item + ", " + item, item[1:], item + "0", "0" + item,
		strings.ToUpper(item), item[1:] + "g", item[1:] + "\x00", item[1:] + "\xff", item[1:] + "-", "+" + item[1:], "-" + item[1:],
		"0x" + item[2:], item[2:] + "é", item[1:] + "/", item[1:] + ":", item[1:] + "`", item[1:] + "G", item[1:] + "_"}
}

func TestReadNumbersFails(t *testing.T) {
	for _, s := range append(spoiled("3f8abcde"), "3f80000000000000", "7fc00001", "ffc00000", "7f800001", "ffffffff", "3f800000,7fffffff", "٣f80000", strings.Repeat(",", 300)) {
		list, ok := impl.ReadNumbers(s)
		wantListFailure(t, fmt.Sprintf("ReadNumbers %q", s), list, ok)
	}
}

func TestReadComplexFails(t *testing.T) {
	for _, s := range append(spoiled("3f8abcde3f8abcde"), "3f800000", "3f800000,00000000", "3f8000007fc00001", "ffc0000000000000", "7f80000100000000", "3f80000000000000,7fffffff7fc00000", "3f80000é0000000", strings.Repeat(",", 300)) {
		list, ok := impl.ReadComplex(s)
		wantListFailure(t, fmt.Sprintf("ReadComplex %q", s), list, ok)
	}
}

func TestIsName(t *testing.T) {
	for _, s := range []string{"a", "z", "ring", "machines", "zzzzzzzz"} {
		want(t, "IsName "+s, impl.IsName(s), true)
	}
	for _, s := range []string{"", "machines1", "aaaaaaaaa", "A", "Ring", "a1", "1", "a b", " a", "a ", "a\n", "a\x00", "a\xff", "`", "{", "é", "aé", "ａ", strings.Repeat("a", 1000)} {
		want(t, fmt.Sprintf("IsName %q", s), impl.IsName(s), false)
	}
}

func TestDecimal(t *testing.T) {
	for _, c := range []struct {
		n    int64
		text string
	}{
		{0, "0"}, {7, "7"}, {-4, "-4"}, {10, "10"}, {-100, "-100"}, {1000000000000000, "1000000000000000"}, {-1000000000000001, "-1000000000000001"},
		{math.MaxInt64, "9223372036854775807"}, {math.MinInt64, "-9223372036854775808"},
	} {
		want(t, "Decimal", impl.Decimal(c.n), c.text)
	}
}

func TestReadDecimal(t *testing.T) {
	for _, n := range []int64{0, 1, -1, 9, 10, -10, 123456789, 999999999999999, -999999999999999, 1000000000000000, -1000000000000000} {
		got, ok := impl.ReadDecimal(impl.Decimal(n))
		want(t, fmt.Sprint("ReadDecimal ", n, " succeeds"), ok, true)
		want(t, "ReadDecimal", got, n)
	}
	for _, s := range []string{"", "-", "--1", "+1", "-0", "00", "01", "-01", "0000000000000001", " 1", "1 ", "1\n", "1.0", "1e3", "0x1", "1_0", "a", "1a", "\x00", "1\xff", "٣", "１", "none", "1,2",
		"1000000000000001", "-1000000000000001", "9999999999999999", "10000000000000000", "9223372036854775807", "-9223372036854775808", "18446744073709551617", "340282366920938463463374607431768211457", strings.Repeat("9", 1000)} {
		got, ok := impl.ReadDecimal(s)
		wantFailure(t, fmt.Sprintf("ReadDecimal %q", s), got, ok)
	}
}

func TestListText(t *testing.T) {
	for _, c := range []struct {
		list []int64
		text string
	}{
		{nil, "none"}, {[]int64{}, "none"}, {[]int64{0}, "0"}, {[]int64{-4, 0, 12}, "-4,0,12"},
		{[]int64{1000000000000000, -1000000000000000}, "1000000000000000,-1000000000000000"},
		{make([]int64, 64), strings.Repeat("0,", 63) + "0"},
	} {
		text, ok := impl.ListText(c.list)
		want(t, "ListText succeeds", ok, true)
		want(t, "ListText", text, c.text)
		read, ok := impl.ReadList(text)
		if !ok || !slices.Equal(read, c.list) {
			t.Errorf("ReadList %q: got %v, %v", text, read, ok)
		}
	}
	for _, list := range [][]int64{{1000000000000001}, {-1000000000000001}, {1, math.MinInt64}, {math.MaxInt64, 1}, make([]int64, 65), make([]int64, 1000)} {
		text, ok := impl.ListText(list)
		wantFailure(t, "ListText", text, ok)
	}
}

func TestReadListFails(t *testing.T) {
	for _, s := range []string{"", ",", "1,", ",1", "1,,2", "none,1", "1,none", "None", " 1", "1, 2", "1;2", "1,02", "1,-0", "-", "a", "1\n", "1,1000000000000001", "-1000000000000001", strings.Repeat("0,", 64) + "0", strings.Repeat(",", 100)} {
		list, ok := impl.ReadList(s)
		wantListFailure(t, fmt.Sprintf("ReadList %q", s), list, ok)
	}
}

func TestCheckOf(t *testing.T) {
	for _, c := range []struct {
		start int64
		text  string
		check int64
	}{
		{0, "", 0}, {65002, "", 65002}, {17, "", 17}, {0, "a", 288}, {0, "\x00", 191}, {0, "\xff", 446},
		{1, "a", 1207}, {65002, "\x00", 64275}, {0, "ab", (919*288 + 98 + 191) % 65003}, {0, "ba", (919*289 + 97 + 191) % 65003},
		{0, "é", (919*(0xc3+191) + 0xa9 + 191) % 65003},
	} {
		check, ok := impl.CheckOf(c.start, c.text)
		want(t, fmt.Sprintf("CheckOf %d %q succeeds", c.start, c.text), ok, true)
		want(t, fmt.Sprintf("CheckOf %d %q", c.start, c.text), check, c.check)
	}
	for _, start := range []int64{-1, 65003, math.MinInt64, math.MaxInt64} {
		check, ok := impl.CheckOf(start, "a")
		wantFailure(t, fmt.Sprint("CheckOf ", start), check, ok)
	}
}

func TestCheckOfGoesOn(t *testing.T) {
	text := strings.Repeat("any bytes \x00\xff, ", 100)
	whole, _ := impl.CheckOf(5, text)
	first, _ := impl.CheckOf(5, text[:333])
	rest, ok := impl.CheckOf(first, text[333:])
	want(t, "CheckOf the rest succeeds", ok, true)
	want(t, "CheckOf the rest", rest, whole)
}
