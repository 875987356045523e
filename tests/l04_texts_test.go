package tests

import (
	"fmt"
	"math/rand"
	"regexp"
	"slices"
	"strconv"
	"strings"
	"testing"

	"loop.example/g01357/impl"
)

// digits finds the digits of a pattern.
var digits = regexp.MustCompile("[0-9]")

// knownHyphens looks for each digit of each pattern before each place of a text.
func knownHyphens(t string, patterns []string) []int64 {
	places := []int64{}
	for k := 2; k+2 <= len(t); k++ {
		greatest := byte('0')
		for _, pattern := range patterns {
			for _, at := range digits.FindAllStringIndex(pattern, -1) {
				before, behind := digits.ReplaceAllString(pattern[:at[0]], ""), digits.ReplaceAllString(pattern[at[1]:], "")
				if strings.HasSuffix("."+t[:k], before) && strings.HasPrefix(t[k:]+".", behind) {
					greatest = max(greatest, pattern[at[0]])
				}
			}
		}
		if greatest%2 == 1 {
			places = append(places, int64(k))
		}
	}
	return places
}

// randomPattern returns a valid pattern that often fits short texts of a and b.
func randomPattern(r *rand.Rand) string {
	pattern := ""
	digit := func() {
		if r.Intn(3) == 0 {
			pattern += strconv.Itoa(r.Intn(10))
		}
	}
	digit()
	for range 1 + r.Intn(3) {
		pattern += []string{"a", "b", "a", "b", "."}[r.Intn(5)]
		digit()
	}
	return pattern
}

func TestHyphensAreToldByPatterns(t *testing.T) {
	r := rand.New(rand.NewSource(47))
	parted := 0
	for range 3000 {
		text, patterns := randomText(r, "ab", 10), []string{}
		for range r.Intn(6) {
			patterns = append(patterns, randomPattern(r))
		}
		got, ok := impl.HyphensOf(text, patterns)
		wantList(t, fmt.Sprint("HyphensOf ", text, patterns), got, ok, knownHyphens(text, patterns)...)
		parted += len(got)
	}
	if parted < 1000 {
		t.Errorf("just %d places were found", parted)
	}
}

func TestHyphensOf(t *testing.T) {
	for _, c := range []struct {
		text     string
		patterns []string
		expected []int64
	}{
		{"abcab", []string{"c1a", "1b"}, []int64{3}},
		{"hyphenation", strings.Fields("hy3ph he2n hena4 hen5at 1na n2at 1tio 2io o2n"), []int64{2, 6}},
		{"", []string{"1a", ".1."}, nil}, {"abc", []string{"a1b", "b1c"}, nil}, {"abcd", []string{"a1b1c1d1"}, []int64{2}}, {"abcd", nil, nil},
		{"abcd", []string{"abcd", "b0c", "bc"}, nil}, {"abcd", []string{"b2c"}, nil}, {"abcd", []string{"b2c", "b3c"}, []int64{2}}, {"abcd", []string{"b4c", "b3c"}, nil},
		{"abcd", []string{".ab1"}, []int64{2}}, {"abcd", []string{"1cd."}, []int64{2}}, {"abcd", []string{".bc1", ".c1d", "c1."}, nil}, {"abcd", []string{"a.1b", ".1.", "..9", "9.."}, nil},
		{"aaaaaa", []string{"a1a"}, []int64{2, 3, 4}}, {"aaaaaa", []string{".aa1", "aaa2"}, []int64{2}}, {"aaaaaa", []string{"9aaaaaa8"}, nil},
		{"abcdefgh", []string{"abcd9efgh"}, []int64{4}}, {"abcdefgh", []string{"0a0b1c0d0e1f0g0h0"}, []int64{2, 5}}, {"abcdefg", []string{".abcd1efg", "abcd7efg."}, []int64{4}},
		{longest(), slices.Repeat([]string{"a1aa"}, 32), countedFrom(2, 46)},
	} {
		got, ok := impl.HyphensOf(c.text, c.patterns)
		wantList(t, fmt.Sprint("HyphensOf ", c.text, c.patterns), got, ok, c.expected...)
	}
}

// countedFrom returns the numbers from low to high.
func countedFrom(low, high int64) []int64 {
	list := []int64{}
	for n := low; n <= high; n++ {
		list = append(list, n)
	}
	return list
}

func TestHyphensOfOthersFails(t *testing.T) {
	for _, pattern := range []string{"", "1", "12", "a12b", "a1b23", "12a", "a12", "a00b", "A1b", "a-b", "a 1b", "ä", "\xff", "a\x00", "abcdefghi", ".abcdefgh", "1a2b3c4d5e6f7g8h9i", tooLong(), strings.Repeat("1", 49)} {
		got, ok := impl.HyphensOf("abcab", []string{"c1a", pattern})
		wantListFailure(t, fmt.Sprintf("HyphensOf with the pattern %q", pattern), got, ok)
		got, ok = impl.HyphensOf("", []string{pattern})
		wantListFailure(t, fmt.Sprintf("HyphensOf nothing with the pattern %q", pattern), got, ok)
	}
	for _, text := range []string{tooLong(), "abCab", "ab ab", "ab.ab", ".", "ab1ab", "\xff", "ä"} {
		got, ok := impl.HyphensOf(text, []string{"c1a"})
		wantListFailure(t, fmt.Sprintf("HyphensOf %q", text), got, ok)
	}
	got, ok := impl.HyphensOf("abcab", slices.Repeat([]string{"c1a"}, 33))
	wantListFailure(t, "HyphensOf with 33 patterns", got, ok)
}

// knownStem looks for the longest ends first.
func knownStem(t string, ends, into []string, least int64) string {
	for long := len(t); long >= 0; long-- {
		for i, end := range ends {
			if len(end) == long && strings.HasSuffix(t, end) && int64(len(t)-long) >= least {
				return t[:len(t)-long] + into[i]
			}
		}
	}
	return t
}

func TestStemsAreToldByEnds(t *testing.T) {
	r := rand.New(rand.NewSource(48))
	for range 3000 {
		text, ends, into := randomText(r, "ab\xff", 6), []string{}, []string{}
		for i := range r.Intn(6) {
			ends, into = append(ends, randomText(r, "ab\xff", 4)), append(into, strconv.Itoa(i))
		}
		least := r.Int63n(7)
		got, ok := impl.StemOf(text, ends, into, least)
		wantText(t, fmt.Sprintf("StemOf %q %q %d", text, ends, least), got, ok, knownStem(text, ends, into, least))
	}
}

func TestStemOf(t *testing.T) {
	for _, c := range []struct {
		text       string
		ends, into []string
		least      int64
		expected   string
	}{
		{"cities", []string{"s", "ies"}, []string{"", "y"}, 2, "city"}, {"cities", []string{"s", "ies"}, []string{"", "y"}, 3, "city"},
		{"cities", []string{"s", "ies"}, []string{"", "y"}, 4, "citie"}, {"cities", []string{"s", "ies"}, []string{"", "y"}, 5, "citie"}, {"cities", []string{"s", "ies"}, []string{"", "y"}, 6, "cities"},
		{"cities", nil, nil, 0, "cities"}, {"", nil, nil, 48, ""}, {"", []string{""}, []string{"a"}, 0, "a"}, {"", []string{""}, []string{"a"}, 1, ""},
		{"ab", []string{"b", "b", "b"}, []string{"x", "y", "z"}, 0, "ax"}, {"ab", []string{"", "b", ""}, []string{"x", "y", "z"}, 0, "ay"}, {"ab", []string{"", "b", ""}, []string{"x", "y", "z"}, 2, "abx"},
		{"ab", []string{"xab", "ba", "a"}, []string{"1", "2", "3"}, 0, "ab"}, {"ab", []string{"ab"}, []string{""}, 0, ""}, {"ab", []string{"ab"}, []string{""}, 1, "ab"},
		{bytesText, []string{"A"}, []string{"\xff"}, 48, bytesText}, {bytesText, []string{"A"}, []string{"\xff"}, 0, bytesText[:len(bytesText)-1] + "\xff"},
		{longest(), []string{"aa"}, []string{"bb"}, 46, longest()[:46] + "bb"}, {longest(), []string{longest()}, []string{strings.Repeat("b", 48)}, 0, strings.Repeat("b", 48)}, {longest(), []string{"", "a"}, []string{"b", "c"}, 48, "no text"},
		{longest(), slices.Repeat([]string{"a"}, 32), append(make([]string, 31), "b"), 0, longest()[1:]},
	} {
		got, ok := impl.StemOf(c.text, c.ends, c.into, c.least)
		if what := fmt.Sprintf("StemOf %q %q %q %d", c.text, c.ends, c.into, c.least); c.expected == "no text" {
			wantFailure(t, what, got, ok)
		} else {
			wantText(t, what, got, ok, c.expected)
		}
	}
}

func TestStemOfOthersFails(t *testing.T) {
	for what, c := range map[string]struct {
		text       string
		ends, into []string
		least      int64
	}{
		"49 bytes":               {tooLong(), nil, nil, 0},
		"an end of 49 bytes":     {"a", []string{"b", tooLong()}, []string{"", ""}, 0},
		"49 bytes to be put in":  {"a", []string{"b", "c"}, []string{"", tooLong()}, 0},
		"33 ends":                {"a", make([]string, 33), make([]string, 33), 0},
		"more ends":              {"a", []string{"a", "b"}, []string{"x"}, 0},
		"fewer ends":             {"a", []string{"a"}, []string{"x", "y"}, 0},
		"ends alone":             {"a", []string{"a"}, nil, 0},
		"the least -1":           {"a", nil, nil, -1},
		"the least 49":           {"a", nil, nil, 49},
		"no text as the result":  {longest(), []string{"a"}, []string{"bb"}, 0},
		"no text, much too long": {longest(), []string{"", ""}, []string{longest(), ""}, 0},
	} {
		got, ok := impl.StemOf(c.text, c.ends, c.into, c.least)
		wantFailure(t, "StemOf with "+what, got, ok)
	}
	for _, n := range others() {
		got, ok := impl.StemOf("a", nil, nil, n)
		wantFailure(t, fmt.Sprint("StemOf with the least ", n), got, ok)
	}
}

func TestPackText(t *testing.T) {
	for text, packed := range map[string]string{
		"": "", "a": "a", "aa": "2a", "aaab": "3ab", "abab": "abab", "aabbaa": "2a2b2a", "zzzzzzzzz": "9z", "zzzzzzzzzz": "10z", "zzzzzzzzzzzb": "11zb", longest(): "48a",
		strings.Repeat("a", 9) + strings.Repeat("b", 10) + strings.Repeat("c", 29): "9a10b29c", strings.Repeat("ab", 24): strings.Repeat("ab", 24),
	} {
		got, ok := impl.PackText(text)
		wantText(t, "PackText "+text, got, ok, packed)
		back, ok := impl.UnpackText(packed)
		wantText(t, "UnpackText "+packed, back, ok, text)
	}
	for _, text := range []string{tooLong(), "A", "a1", "1", "a b", "ä", "\xff", "aa\x00", "{", "`"} {
		got, ok := impl.PackText(text)
		wantFailure(t, fmt.Sprintf("PackText %q", text), got, ok)
	}
}

// packed finds texts of runs, of 2 to 48 letters or one, and runs finds each of these.
var packed, runs = regexp.MustCompile("^(([2-9]|[1-4][0-9])?[a-z])*$"), regexp.MustCompile("([0-9]*)([a-z])")

// knownUnpacked returns the text of runs, in which no two neighbours have the same letter.
func knownUnpacked(t string) (string, bool) {
	text := ""
	for _, run := range runs.FindAllStringSubmatch(t, -1) {
		if strings.HasSuffix(text, run[2]) {
			return "", false
		}
		long, err := strconv.Atoi(run[1])
		if err != nil {
			long = 1
		}
		text += strings.Repeat(run[2], long)
	}
	if !packed.MatchString(t) || len(text) > 48 {
		return "", false
	}
	return text, true
}

func TestTextsArePackedAndUnpacked(t *testing.T) {
	r := rand.New(rand.NewSource(49))
	for range 3000 {
		text := ""
		for range r.Intn(10) {
			text += strings.Repeat(randomText(r, "abz", 1), r.Intn(14))
		}
		text = text[:min(len(text), 48)]
		got, _ := impl.PackText(text)
		back, ok := impl.UnpackText(got)
		wantText(t, "UnpackText "+got, back, ok, text)
	}
	for _, text := range textsUpTo("ab0124", 5) {
		got, ok := impl.UnpackText(text)
		expected, can := knownUnpacked(text)
		want(t, "UnpackText "+text, got, expected)
		want(t, "UnpackText succeeds for "+text, ok, can)
	}
}

func TestUnpackTextOfOthersFails(t *testing.T) {
	for _, text := range []string{
		"1a", "0a", "00a", "02a", "2a2a", "aa", "a2a", "2aa", "3", "a3", "2", "2 a", "-2a", "+2a", "2A", "2ä", "\xff", "2a\x00", "2.5a", "49a", "100a", "48ab", "24a25b", "a48b",
		"18446744073709551617a", "18446744073709551618a", "9223372036854775807a", strings.Repeat("9", 47) + "a", strings.Repeat("0", 46) + "2a", tooLong(), strings.Repeat("ab", 24) + "a",
	} {
		got, ok := impl.UnpackText(text)
		wantFailure(t, fmt.Sprintf("UnpackText %q", text), got, ok)
	}
}

func TestCommonStart(t *testing.T) {
	for _, c := range []struct {
		list     []string
		expected string
	}{
		{[]string{"abc", "abd"}, "ab"}, {[]string{""}, ""}, {[]string{"abc"}, "abc"}, {[]string{"abc", "abc", "abc"}, "abc"}, {[]string{"abc", "ab", "abd"}, "ab"},
		{[]string{"abc", "", "abd"}, ""}, {[]string{"abc", "xbc"}, ""}, {[]string{"xabc", "xbbc"}, "x"}, {[]string{bytesText + "a", bytesText}, bytesText}, {[]string{"ä", "ö"}, "\xc3"},
		{[]string{longest(), longest()}, longest()}, {append(slices.Repeat([]string{longest()}, 31), "aab"), "aa"},
	} {
		got, ok := impl.CommonStart(c.list)
		wantText(t, fmt.Sprintf("CommonStart %q", c.list), got, ok, c.expected)
		slices.Reverse(c.list)
		got, ok = impl.CommonStart(c.list)
		wantText(t, fmt.Sprintf("CommonStart %q", c.list), got, ok, c.expected)
	}
	for _, list := range [][]string{nil, {}, make([]string, 33), {"a", tooLong()}, {tooLong()}, {tooLong(), "a"}, {"", "b", tooLong()}} {
		got, ok := impl.CommonStart(list)
		wantFailure(t, fmt.Sprintf("CommonStart of %d texts", len(list)), got, ok)
	}
}

func TestCommonStartIsTheLongest(t *testing.T) {
	eachTwoTexts(1000, 6, func(r *rand.Rand, a, b string) {
		list := []string{a, b, a + "a", b + "\xff"}[:1+r.Intn(4)]
		got, ok := impl.CommonStart(list)
		want(t, "CommonStart succeeds", ok, true)
		all := func(start string) bool {
			return !slices.ContainsFunc(list, func(text string) bool { return !strings.HasPrefix(text, start) })
		}
		if !all(got) || len(got) < len(a) && all(a[:len(got)+1]) {
			t.Errorf("CommonStart %q: got %q", list, got)
		}
	})
}
