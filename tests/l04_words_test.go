package tests

import (
	"fmt"
	"math/rand"
	"strings"
	"testing"

	"loop.example/g01357/impl"
)

// digitOf returns the digit that a letter tells, or a blank.
func digitOf(letter byte) byte { return " 123 12  22455 12623 1 2 2"[letter-'a'] }

// knownSound looks back from each letter for those before it.
func knownSound(t string) string {
	key := t[:1]
	for i := 1; i < len(t) && len(key) < 4; i++ {
		digit := digitOf(t[i])
		before := strings.TrimRight(t[:i], "hw")
		if digit == ' ' || digitOf(t[i-1]) == digit || before != "" && digitOf(before[len(before)-1]) == digit {
			continue
		}
		key += string(digit)
	}
	return key + strings.Repeat("0", 4-len(key))
}

func TestDigitsOfLetters(t *testing.T) {
	for i, letters := range []string{"aeiouyhw", "bfpv", "cgjkqsxz", "dt", "l", "mn", "r"} {
		for _, letter := range letters {
			got, ok := impl.SoundKey("a" + string(letter))
			wantText(t, fmt.Sprintf("SoundKey a%c", letter), got, ok, fmt.Sprint("a", i, "00"))
			got, ok = impl.SoundKey(string(letter))
			wantText(t, fmt.Sprintf("SoundKey %c", letter), got, ok, string(letter)+"000")
		}
	}
}

func TestSoundKey(t *testing.T) {
	for text, key := range map[string]string{
		"robert": "r163", "rupert": "r163", "rubin": "r150", "ashcraft": "a261", "ashcroft": "a261", "tymczak": "t522", "pfister": "p236", "honeyman": "h555",
		"jackson": "j250", "lee": "l000", "lloyd": "l300", "euler": "e460", "ab": "a100", "a": "a000", "h": "h000", "bb": "b000", "bhb": "b000", "bwb": "b000", "bhwhb": "b000",
		"bab": "b100", "bhab": "b100", "bahb": "b100", "hb": "h100", "whb": "w100", "hwr": "h600", "abhb": "a100", "abab": "a110", "abcd": "a123", "abcdlmr": "a123",
		longest(): "a000", "b" + strings.Repeat("h", 46) + "b": "b000", strings.Repeat("a", 47) + "r": "a600",
	} {
		got, ok := impl.SoundKey(text)
		wantText(t, "SoundKey "+text, got, ok, key)
	}
	r := rand.New(rand.NewSource(46))
	for range 5000 {
		some := []string{"abcdefghijklmnopqrstuvwxyz", "abhwcp", "bh"}[r.Intn(3)]
		text := some[r.Intn(len(some)):][:1] + randomText(r, some, 8)
		got, ok := impl.SoundKey(text)
		wantText(t, "SoundKey "+text, got, ok, knownSound(text))
	}
}

func TestSoundKeyOfOthersFails(t *testing.T) {
	for _, text := range []string{"", tooLong(), "Robert", "robert ", "rob-ert", "r1", "ä", "\xff", "a\x00", "a.b", "{", "`"} {
		got, ok := impl.SoundKey(text)
		wantFailure(t, fmt.Sprintf("SoundKey %q", text), got, ok)
	}
}

// units are the words of 1 to 19.
func units() []string {
	return strings.Fields("one two three four five six seven eight nine ten eleven twelve thirteen fourteen fifteen sixteen seventeen eighteen nineteen")
}

// knownWords returns the words of the numbers below 1000, each one made of those before.
func knownWords() []string {
	words := append([]string{"zero"}, units()...)
	for _, tens := range strings.Fields("twenty thirty forty fifty sixty seventy eighty ninety") {
		words = append(words, tens)
		for _, unit := range units()[:9] {
			words = append(words, tens+"-"+unit)
		}
	}
	for _, unit := range units()[:9] {
		words = append(words, unit+" hundred")
		for _, rest := range words[1:100] {
			words = append(words, unit+" hundred "+rest)
		}
	}
	return words
}

// wantWords checks the words of a number, and that they lead back.
func wantWords(t *testing.T, n int64, expected string) {
	t.Helper()
	words, ok := impl.NumberWords(n)
	wantText(t, fmt.Sprint("NumberWords ", n), words, ok, expected)
	back, ok := impl.ReadWords(expected)
	wantNumberTold(t, "ReadWords "+expected, back, ok, n)
}

func TestNumbersAreReadBackFromWords(t *testing.T) {
	words := knownWords()
	for n, expected := range words {
		wantWords(t, int64(n), expected)
		if n > 0 {
			wantWords(t, 1000*int64(n), expected+" thousand")
			rest := 1 + (n*n+n)%999
			wantWords(t, 1000*int64(n)+int64(rest), expected+" thousand "+words[rest])
			wantWords(t, 1000*int64(rest)+int64(n), words[rest]+" thousand "+expected)
		}
	}
}

func TestNumberWords(t *testing.T) {
	wantWords(t, 21, "twenty-one")
	wantWords(t, 0, "zero")
	wantWords(t, 100, "one hundred")
	wantWords(t, 110, "one hundred ten")
	wantWords(t, 213, "two hundred thirteen")
	wantWords(t, 1000, "one thousand")
	wantWords(t, 1001, "one thousand one")
	wantWords(t, 100000, "one hundred thousand")
	wantWords(t, 100020, "one hundred thousand twenty")
	wantWords(t, 999999, "nine hundred ninety-nine thousand nine hundred ninety-nine")
	// These words are no text of at most MaxText bytes.
	wantWords(t, 373373, "three hundred seventy-three thousand three hundred seventy-three")
	for _, n := range append(others(), 1000000) {
		words, ok := impl.NumberWords(n)
		wantFailure(t, fmt.Sprint("NumberWords ", n), words, ok)
	}
}

func TestWordsThatAreNoNumbers(t *testing.T) {
	for _, words := range []string{
		"", " ", "no", "One", "ONE", "1", "one ", " one", "one  hundred", "one hundred ", "one\thundred", "onehundred", "one-hundred", "ones",
		"twenty one", "twenty-", "-one", "twenty-zero", "twenty-ten", "twenty-eleven", "twenty-twenty", "one-one", "zero-one", "twenty-one-one", "forty-one two", "fourty", "ninty",
		"hundred", "thousand", "hundred one", "thousand one", "zero hundred", "zero thousand", "one hundred zero", "one thousand zero", "zero zero", "one one", "zero one", "ten one",
		"ten hundred", "eleven hundred", "twenty hundred", "one hundred hundred", "one hundred two hundred", "one hundred one hundred", "one hundred and one", "one hundred one two",
		"one thousand thousand", "one thousand two thousand", "two thousand one thousand", "one thousand one hundred thousand", "one hundred one thousand thousand",
		"one million", "one thousand thousand thousand thousand thousand thousand", "one hundred hundred hundred hundred hundred hundred hundred hundred hundred hundred hundred",
		"one\x00", "one\xff", "öne", "nine hundred ninety-nine thousand nine hundred ninety-nine one", "nine hundred ninety-nine thousand one thousand",
		strings.Repeat("nine ", 100000) + "nine", strings.Repeat("one hundred ", 1000) + "one", strings.Repeat(" ", 100000),
	} {
		n, ok := impl.ReadWords(words)
		wantFailure(t, fmt.Sprintf("ReadWords %.80q", words), n, ok)
	}
}

// knownRoman puts the digits of each decimal place together.
func knownRoman(n int64) string {
	roman := ""
	for _, digits := range []string{"IVX", "XLC", "CDM", "M"} {
		pattern := []string{"", "0", "00", "000", "01", "1", "10", "100", "1000", "02"}[n%10]
		place := ""
		for _, digit := range pattern {
			place += digits[digit-'0' : digit-'0'+1]
		}
		roman, n = place+roman, n/10
	}
	return roman
}

func TestRomanDigitsLeadBack(t *testing.T) {
	for n := int64(1); n <= 3999; n++ {
		roman, ok := impl.RomanOf(n)
		wantText(t, fmt.Sprint("RomanOf ", n), roman, ok, knownRoman(n))
		back, ok := impl.ReadRoman(roman)
		wantNumberTold(t, "ReadRoman "+roman, back, ok, n)
	}
}

func TestRomanOf(t *testing.T) {
	for n, expected := range map[int64]string{1: "I", 21: "XXI", 4: "IV", 9: "IX", 40: "XL", 90: "XC", 400: "CD", 900: "CM", 1994: "MCMXCIV", 3888: "MMMDCCCLXXXVIII", 3999: "MMMCMXCIX"} {
		roman, ok := impl.RomanOf(n)
		wantText(t, fmt.Sprint("RomanOf ", n), roman, ok, expected)
	}
	for _, n := range append(others(), 0, 4000) {
		roman, ok := impl.RomanOf(n)
		wantFailure(t, fmt.Sprint("RomanOf ", n), roman, ok)
	}
}

// TestReadRomanReadsNoOthers takes all texts of at most 5 digits, most of which are those of no number.
func TestReadRomanReadsNoOthers(t *testing.T) {
	numbers := map[string]int64{}
	for n := int64(1); n <= 3999; n++ {
		numbers[knownRoman(n)] = n
	}
	for _, text := range textsUpTo("MDCLXVI", 5) {
		n, ok := impl.ReadRoman(text)
		want(t, "ReadRoman "+text, n, numbers[text])
		want(t, "ReadRoman succeeds for "+text, ok, numbers[text] > 0)
	}
	for _, text := range []string{"i", "mm", "MMMM", "MMMCMXCIXI", "XXI ", " XXI", "XX I", "XXIA", "X\x00", "\xff", "Ⅳ", longest(), strings.Repeat("I", 48), strings.Repeat("M", 49), strings.Repeat("M", 100000)} {
		n, ok := impl.ReadRoman(text)
		wantFailure(t, fmt.Sprintf("ReadRoman %.60q", text), n, ok)
	}
}
