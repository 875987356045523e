package tests

import (
	"cmp"
	"fmt"
	"math/rand"
	"slices"
	"strings"
	"testing"

	"loop.example/g01357/impl"
)

// knownLetters returns other letters for those of a text, the longest Find first, as the library exchanges texts.
func knownLetters(table []impl.Change, text string) string {
	table = slices.Clone(table)
	slices.SortStableFunc(table, func(a, b impl.Change) int { return -cmp.Compare(len(a.Find), len(b.Find)) })
	pairs := []string{}
	for _, c := range table {
		pairs = append(pairs, spelling(c.Find), spelling(c.Give))
	}
	return strings.NewReplacer(pairs...).Replace(text)
}

func TestTransliterate(t *testing.T) {
	for _, c := range []struct {
		table, word, expected string
	}{
		{"0>1 00>1", "000", "11"},
		{"", "0123", "0123"},
		{"", "", ""},
		{"0>1", "", ""},
		{"0>", "0102", "12"},
		{"0>1 1>0", "0110", "1001"}, // what is given is not looked at again
		{"0>2 01>3", "0010", "232"}, // the longest Find, though it comes later
		{"01>3 0>2", "0010", "232"},
		{"0>1 0>2", "00", "11"}, // the first one of equal ones
		{"0>2 01>3 01>1 012>", "00101201", "233"},
		{"01>2 10>3", "010", "20"}, // the first letter first
		{"00>1", "00000", "110"},
		{"010>2 1>3", "01101", "03303"},
		{"010>2 1>3", "01010", "230"},
		{"0123>0000 0>1", "01230123", "00000000"},
		{"0123>3 0>1", "012012", "112112"},
		{"0>00", zeros(12), zeros(24)},
		{"0>0000", zeros(6), zeros(24)},
		{"0000>1", zeros(24), "111111"},
		{"0>1", zeros(24), strings.Repeat("1", 24)},
	} {
		got, ok := impl.Transliterate(rules(c.table), spelled(c.word), 4)
		wantSpelled(t, fmt.Sprint("Transliterate ", c.table, " ", c.word), got, ok, c.expected)
	}
	for _, c := range [][2]string{{"0>00", zeros(13)}, {"0>0000", zeros(7)}, {"1>00", zeros(23) + "1"}, {"1>0000", zeros(12) + "1" + zeros(11)}} {
		got, ok := impl.Transliterate(rules(c[0]), spelled(c[1]), 4)
		wantListFailure(t, fmt.Sprint("Transliterate ", c), got, ok)
	}
}

func TestLettersOfRandomWords(t *testing.T) {
	r := rand.New(rand.NewSource(61))
	failures := 0
	for range 4000 {
		letters := 1 + r.Int63n(4)
		table, word := randomRules(r, letters, 8, true), randomWord(r, letters, 24)
		expected := knownLetters(table, spelling(word))
		got, ok := impl.Transliterate(table, word, letters)
		wantSpelledIf(t, fmt.Sprint("Transliterate ", table, word), got, ok, expected, len(expected) <= 24)
		if !ok {
			failures++
		}
	}
	if failures < 100 || failures > 3000 {
		t.Errorf("%d of 4000 words became too long", failures)
	}
}

func TestBackLiterate(t *testing.T) {
	for _, c := range []struct {
		table, word string
		letters     int64
		expected    string
	}{
		{"0>1", "1", 2, "0 1"},
		{"0>1", "0", 2, ""},
		{"0>1 1>0", "01", 2, "10"},
		{"", "0123", 4, "0123"},
		{"", "01230", 4, "01230"},
		{"", "012301", 4, ""}, // it has more than 5 letters
		{"", "", 4, "-"},
		{"0>", "", 1, "- 0 00 000 0000 00000"},
		{"0>", "1", 2, "1 01 10 001 010 100 0001 0010 0100 1000 00001 00010 00100 01000 10000"},
		{"00>0", "0", 1, "0 00"},
		{"00>0", "00", 1, "000 0000"},
		{"0>0000", zeros(20), 1, "00000"},
		{"0>0000", zeros(24), 1, ""},
		{"0>00 1>0000", zeros(6), 2, "01 10 000"},
	} {
		got, ok := impl.BackLiterate(rules(c.table), spelled(c.word), c.letters)
		wantSpelledAll(t, fmt.Sprint("BackLiterate ", c), got, ok, c.expected)
	}
}

func TestWordsBackOfRandomOnes(t *testing.T) {
	r := rand.New(rand.NewSource(62))
	several := 0
	for range 400 {
		letters := 1 + r.Int63n(3)
		table, word := randomRules(r, letters, 8, true), spelling(randomWord(r, letters, 5))
		if r.Intn(4) > 0 {
			word = knownLetters(table, word)
		}
		expected := [][]int64{}
		for _, source := range wordsUpTo(letters, 5) {
			if knownLetters(table, spelling(source)) == word {
				expected = append(expected, source)
			}
		}
		got, ok := impl.BackLiterate(table, spelled(word), letters)
		wantSpelledAll(t, fmt.Sprint("BackLiterate ", table, word), got, ok, spellings(expected))
		wantWordsInOrder(t, "BackLiterate", got)
		if len(got) > 1 {
			several++
		}
	}
	if several < 100 {
		t.Errorf("just %d words have several ones", several)
	}
}

func TestWithFeatures(t *testing.T) {
	for _, c := range []struct {
		features  []int64
		need, ban int64
		expected  []int64
	}{
		{[]int64{1, 3, 2}, 1, 2, []int64{0}},
		{[]int64{1, 3, 2}, 0, 0, []int64{0, 1, 2}},
		{[]int64{1, 3, 2}, 3, 0, []int64{1}},
		{[]int64{1, 3, 2}, 2, 0, []int64{1, 2}},
		{[]int64{1, 3, 2}, 0, 2, []int64{0}},
		{[]int64{1, 3, 2}, 1, 1, nil},
		{[]int64{1, 3, 2}, 4, 0, nil},
		{[]int64{0}, 0, 255, []int64{0}},
		{[]int64{0}, 255, 0, nil},
		{[]int64{255, 128, 0, 127}, 128, 0, []int64{0, 1}},
		{[]int64{255, 128, 0, 127}, 0, 128, []int64{2, 3}},
		{[]int64{255, 128, 0, 127}, 255, 0, []int64{0}},
		{[]int64{255, 128, 0, 127}, 0, 255, []int64{2}},
	} {
		got, ok := impl.WithFeatures(c.features, c.need, c.ban)
		wantList(t, fmt.Sprint("WithFeatures ", c), got, ok, c.expected...)
	}
}

func TestShiftFeatures(t *testing.T) {
	for _, c := range []struct {
		features         []int64
		word             string
		need, set, clear int64
		expected         string
	}{
		{[]int64{1, 3, 2}, "012", 1, 2, 0, "112"},
		{[]int64{1, 3, 2}, "012", 0, 0, 0, "012"},
		{[]int64{1, 3, 2}, "", 1, 2, 0, ""},
		{[]int64{1, 3, 2}, "012", 0, 4, 0, "012"}, // there are no such letters
		{[]int64{1, 3, 2}, "012", 0, 0, 1, "022"}, // one of 1 less 1 is not there
		{[]int64{1, 3, 2}, "012", 0, 1, 2, "000"},
		{[]int64{1, 3, 2}, "012", 0, 3, 3, "012"}, // they are added, and then taken away, so none is left
		{[]int64{1, 3, 2}, "012", 0, 3, 1, "222"},
		{[]int64{1, 3, 2}, "012", 3, 0, 1, "022"},
		{[]int64{0, 255}, "0101", 0, 255, 0, "1111"},
		{[]int64{0, 255}, "0101", 0, 0, 255, "0000"},
		{[]int64{0, 255}, "0101", 0, 255, 255, "0000"},
		{[]int64{0, 255}, "0101", 255, 0, 255, "0000"},
		{[]int64{0, 255}, "0101", 255, 255, 0, "0101"},
		{[]int64{7}, zeros(24), 1, 1, 0, zeros(24)},
		{[]int64{8, 4, 2, 1}, "0123", 0, 15, 14, "3333"},
		{[]int64{8, 4, 2, 1}, "0123", 8, 15, 14, "3123"},
	} {
		got, ok := impl.ShiftFeatures(c.features, spelled(c.word), c.need, c.set, c.clear)
		wantSpelled(t, fmt.Sprint("ShiftFeatures ", c), got, ok, c.expected)
	}
}

// hasAll reports by digits whether a number has all features of others, and hasNone whether it has none of these.
func hasAll(own, others int64) bool {
	return !slices.ContainsFunc(digitsOf(others), func(n int64) bool { return own/n%2 == 0 })
}

func hasNone(own, others int64) bool {
	return !slices.ContainsFunc(digitsOf(others), func(n int64) bool { return own/n%2 == 1 })
}

// digitsOf returns the powers of 2 whose sum is n.
func digitsOf(n int64) []int64 {
	powers := []int64{}
	for power := int64(1); power < 256; power *= 2 {
		if n/power%2 == 1 {
			powers = append(powers, power)
		}
	}
	return powers
}

// knownShift makes the letter with other features, one by one.
func knownShift(features []int64, letter, set, clear int64) int64 {
	own := features[letter]
	for _, power := range digitsOf(set) {
		if own/power%2 == 0 {
			own += power
		}
	}
	for _, power := range digitsOf(clear) {
		if own/power%2 == 1 {
			own -= power
		}
	}
	for other, theirs := range features {
		if theirs == own {
			return int64(other)
		}
	}
	return letter
}

func TestFeaturesOfRandomLetters(t *testing.T) {
	r := rand.New(rand.NewSource(63))
	for range 4000 {
		features := []int64{}
		size := []int64{4, 8, 256}[r.Intn(3)]
		for _, own := range r.Perm(int(size))[:1+r.Intn(4)] {
			features = append(features, int64(own))
		}
		need, ban, set, clear := r.Int63n(size)&r.Int63n(size), r.Int63n(size)&r.Int63n(size), r.Int63n(size), r.Int63n(size)
		expected := []int64{}
		for letter, own := range features {
			if hasAll(own, need) && hasNone(own, ban) {
				expected = append(expected, int64(letter))
			}
		}
		got, ok := impl.WithFeatures(features, need, ban)
		wantList(t, fmt.Sprint("WithFeatures ", features, need, ban), got, ok, expected...)
		word := randomWord(r, int64(len(features)), 24)
		shifted := slices.Clone(word)
		for i, letter := range word {
			if hasAll(features[letter], need) {
				shifted[i] = knownShift(features, letter, set, clear)
			}
		}
		got, ok = impl.ShiftFeatures(features, word, need, set, clear)
		wantList(t, fmt.Sprint("ShiftFeatures ", features, word, need, set, clear), got, ok, shifted...)
	}
}

func TestFeaturesOfOthersFail(t *testing.T) {
	wantNone := func(what string, features []int64) {
		t.Helper()
		got, ok := impl.WithFeatures(features, 0, 0)
		wantListFailure(t, "WithFeatures of "+what, got, ok)
		got, ok = impl.ShiftFeatures(features, nil, 0, 0, 0)
		wantListFailure(t, "ShiftFeatures of "+what, got, ok)
	}
	wantNone("none", nil)
	wantNone("5 letters", []int64{1, 2, 3, 4, 5})
	wantNone("many letters", make([]int64, 1000))
	wantNone("equal ones", []int64{1, 1})
	wantNone("equal ones far from one another", []int64{7, 1, 2, 7})
	for _, n := range append(others(), 256, 257) {
		wantNone(fmt.Sprint("features ", n), []int64{n})
		wantNone(fmt.Sprint("features 1 and ", n), []int64{1, n})
		features, word := []int64{0, 255, 1, 2}, spelled("0123")
		for i := range 2 {
			args := [2]int64{}
			args[i] = n
			got, ok := impl.WithFeatures(features, args[0], args[1])
			wantListFailure(t, fmt.Sprint("WithFeatures and ", args), got, ok)
		}
		for i := range 3 {
			args := [3]int64{}
			args[i] = n
			got, ok := impl.ShiftFeatures(features, word, args[0], args[1], args[2])
			wantListFailure(t, fmt.Sprint("ShiftFeatures and ", args), got, ok)
		}
	}
	for what, word := range map[string][]int64{"25 letters": make([]int64, 25), "the letter -1": {-1}, "another letter": {0, 3}} {
		got, ok := impl.ShiftFeatures([]int64{1, 2, 3}, word, 0, 0, 0)
		wantListFailure(t, "ShiftFeatures with "+what, got, ok)
	}
}
