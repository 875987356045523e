package tests

import (
	"fmt"
	"math"
	"math/rand"
	"slices"
	"strings"
	"testing"

	"loop.example/g01357/impl"
)

// validChanges are valid for 3 letters.
func validChanges() map[string]impl.Change {
	return map[string]impl.Change{
		"a letter":           rule("0>1"),
		"nothing to give":    rule("2>"),
		"all there is":       rule("0120[2012>1201]0210"),
		"the same letter":    rule("0>0"),
		"nil lists":          {Find: []int64{2}},
		"letters at the end": rule("[0>1]2"),
	}
}

// invalidChanges are not valid for 3 letters.
func invalidChanges() map[string]impl.Change {
	all := map[string]impl.Change{"nothing": {}, "no letters to find": rule("1[>1]1"), "no letters to find, but to give": {Give: []int64{0}}}
	for i, name := range []string{"Left", "Find", "Give", "Right"} {
		for _, list := range [][]int64{spelled("00000"), {3}, {0, -1}, {0, 0, math.MinInt64}, {0, 0, 0, math.MaxInt64}, make([]int64, 1000)} {
			c := rule("0[1>2]0")
			*[]*[]int64{&c.Left, &c.Find, &c.Give, &c.Right}[i] = list
			all[fmt.Sprint(name, list)] = c
		}
	}
	return all
}

func TestValidChange(t *testing.T) {
	isValid := func(c impl.Change) bool { return impl.ValidChange(c, 3) }
	wantValid(t, "ValidChange", isValid, validChanges(), invalidChanges())
	for _, letters := range append(others(), 0, 5, 100) {
		want(t, fmt.Sprint("ValidChange for letters ", letters), impl.ValidChange(rule("0>0"), letters), false)
	}
	for letters := int64(1); letters <= 4; letters++ {
		c := impl.Change{Find: []int64{letters - 1}}
		want(t, fmt.Sprint("ValidChange of the last letter of ", letters), impl.ValidChange(c, letters), true)
		want(t, fmt.Sprint("ValidChange of the last letter for one less than ", letters), impl.ValidChange(c, letters-1), false)
	}
}

func TestSameChange(t *testing.T) {
	example := rule("01[2>10]2")
	all := invalidChanges()
	for i, text := range []string{"0[2>10]2", "01[22>10]2", "01[2>1]2", "01[2>10]", "00[2>10]2", "01[1>10]2", "01[2>11]2", "01[2>10]1", "2[01>10]2", "01[10>2]2", "2[2>10]01", "01[>10]2"} {
		all[fmt.Sprint("change ", i)] = rule(text)
	}
	wantSameAlone(t, "SameChange", impl.SameChange, example, all)
	want(t, "SameChange of equal ones", impl.SameChange(example, rule("01[2>10]2")), true)
	want(t, "SameChange of nil lists and empty ones", impl.SameChange(rule("0>"), impl.Change{Find: []int64{0}}), true)
}

func TestIsLongWord(t *testing.T) {
	for _, letters := range []int64{1, 2, 3, 4} {
		for _, word := range [][]int64{nil, {}, {0}, {letters - 1}, make([]int64, 13), make([]int64, 24)} {
			want(t, fmt.Sprint("IsLongWord ", word, letters), impl.IsLongWord(word, letters), true)
		}
		for _, word := range [][]int64{{letters}, {-1}, {0, letters}, {math.MinInt64}, {math.MaxInt64}, make([]int64, 25), make([]int64, 1000)} {
			want(t, fmt.Sprint("IsLongWord ", word, letters), impl.IsLongWord(word, letters), false)
		}
	}
	for _, letters := range append(others(), 0, 5) {
		want(t, fmt.Sprint("IsLongWord for letters ", letters), impl.IsLongWord(nil, letters) || impl.IsLongWord([]int64{0}, letters), false)
	}
}

// TestChangesAtPlaces tells where a change fits a word, and the word changed at the first place, and at all places.
func TestChangesAtPlaces(t *testing.T) {
	for _, c := range []struct {
		change, word, places, first, all string
	}{
		{"01>2", "011", "0", "21", "21"}, // the example of the document
		{"1[0>1]1", "10101", "1 3", "11101", "11111"},
		{"0>1", "", "", "", ""},
		{"0>1", "111", "", "111", "111"},
		{"01>", "0", "", "0", "0"},
		{"0000>", "000", "", "000", "000"},
		{"00>1", "00000", "0 1 2 3", "1000", "110"}, // it meets itself
		{"00>", "00000", "0 1 2 3", "000", "0"},
		{"010>2", "01010", "0 2", "210", "210"},
		{"0>00", "010", "0 2", "0010", "00100"}, // what is given holds it again
		{"0>0", "00", "0 1", "00", "00"},
		{"01>1", "0011", "1", "011", "011"},        // it fits again behind it
		{"1[0>1]", "100", "1", "110", "110"},       // what is given is not at the left of the next place
		{"1[1>]1", "11111", "1 2 3", "1111", "11"}, // what is taken out is, as the word was at first
		{"0[0>1]0", "0000", "1 2", "0100", "0110"},
		{"0[00>1]", "00000", "1 2 3", "0100", "011"}, // the letter at the left is within the Find before
		{"00[00>1]00", "0000000000", "2 3 4 5 6", "001000000", "0011100"},
		{"0[1>2]", "1010", "2", "1020", "1020"}, // nothing is at the left of the beginning
		{"[1>2]0", "0101", "1", "0201", "0201"}, // and nothing at the right of the end
		{"0[1>2]", "01", "1", "02", "02"},
		{"[0>2]1", "01", "0", "21", "21"},
		{"0[1>]0", "010", "1", "00", "00"},
		{"0[1>]0", "01", "", "01", "01"},
		{"0[1>]0", "10", "", "10", "10"},
		{"0121[2012>]1020", "012120121020", "4", "01211020", "01211020"},
		{"0121[2012>]1020", "12120121020", "", "12120121020", "12120121020"},
		{"0121[2012>]1020", "01212012102", "", "01212012102", "01212012102"},
		{"0121[2012>]1020", "012120121021", "", "012120121021", "012120121021"},
		{"0>1", zeros(24), "0 1 2 3 4 5 6 7 8 9 10 11 12 13 14 15 16 17 18 19 20 21 22 23", "1" + zeros(23), strings.Repeat("1", 24)},
		{"1111>0000", zeros(20) + "1111", "20", zeros(24), zeros(24)},
		{"12>2120", zeros(22) + "1", "", zeros(22) + "1", zeros(22) + "1"},
	} {
		places, ok := impl.PlacesOf(rule(c.change), spelled(c.word), 3)
		want(t, fmt.Sprint("PlacesOf ", c.change, " ", c.word, " succeeds"), ok, true)
		want(t, fmt.Sprint("PlacesOf ", c.change, " ", c.word), strings.Trim(fmt.Sprint(places), "[]"), c.places)
		first, ok := impl.ChangeFirst(rule(c.change), spelled(c.word), 3)
		wantSpelled(t, fmt.Sprint("ChangeFirst ", c.change, " ", c.word), first, ok, c.first)
		all, ok := impl.ChangeAll(rule(c.change), spelled(c.word), 3)
		wantSpelled(t, fmt.Sprint("ChangeAll ", c.change, " ", c.word), all, ok, c.all)
	}
}

func TestChangesThatMakeLongWords(t *testing.T) {
	for _, c := range []struct {
		change, word  string
		first, all    string
		isOne, areAll bool
	}{
		{"0>00", zeros(12), zeros(13), zeros(24), true, true},
		{"0>00", zeros(13), zeros(14), "", true, false},
		{"0>00", zeros(23), zeros(24), "", true, false},
		{"0>00", zeros(24), "", "", false, false},
		{"0>0000", zeros(6), zeros(9), zeros(24), true, true},
		{"0>0000", zeros(7), zeros(10), "", true, false},
		{"1>0000", zeros(20) + "1", zeros(24), zeros(24), true, true},
		{"1>0000", zeros(21) + "1", "", "", false, false},
		{"1>0000", zeros(24), zeros(24), zeros(24), true, true},
		{"0000>1", zeros(24), "1" + zeros(20), "111111", true, true},
		{"00>11", zeros(24), "11" + zeros(22), strings.Repeat("1", 24), true, true},
	} {
		got, ok := impl.ChangeFirst(rule(c.change), spelled(c.word), 2)
		wantSpelledIf(t, fmt.Sprint("ChangeFirst ", c.change, " ", c.word), got, ok, c.first, c.isOne)
		got, ok = impl.ChangeAll(rule(c.change), spelled(c.word), 2)
		wantSpelledIf(t, fmt.Sprint("ChangeAll ", c.change, " ", c.word), got, ok, c.all, c.areAll)
	}
}

// TestChangesOfRandomWords compares all functions of one change with what texts tell.
func TestChangesOfRandomWords(t *testing.T) {
	r := rand.New(rand.NewSource(51))
	failures, changed := 0, 0
	for range 6000 {
		letters := 1 + r.Int63n(4)
		c, word := randomRule(r, letters, r.Intn(2) == 0), randomWord(r, letters, 24)
		text := spelling(word)
		places, ok := impl.PlacesOf(c, word, letters)
		wantList(t, fmt.Sprint("PlacesOf ", c, text), places, ok, knownPlaces(c, text)...)
		first, fits := knownFirst(c, text)
		got, ok := impl.ChangeFirst(c, word, letters)
		wantSpelledIf(t, fmt.Sprint("ChangeFirst ", c, text), got, ok, first, len(first) <= 24)
		all := knownAll(c, text)
		got, ok = impl.ChangeAll(c, word, letters)
		wantSpelledIf(t, fmt.Sprint("ChangeAll ", c, text), got, ok, all, len(all) <= 24)
		most := r.Int63n(101)
		end, times, ends := knownNormal([]impl.Change{c}, text, most)
		got, count, ok := impl.ChangeEnd(c, word, letters, most)
		wantSpelledIf(t, fmt.Sprint("ChangeEnd ", c, text, most), got, ok, end, ends)
		want(t, fmt.Sprint("times of ChangeEnd ", c, text), count, times)
		if !ends {
			failures++
		}
		if fits {
			changed++
		}
		if len(c.Left)+len(c.Right) == 0 {
			want(t, fmt.Sprint("known words of ", c, text), strings.ReplaceAll(text, spelling(c.Find), spelling(c.Give)), all)
		}
	}
	if failures < 300 || changed < 3000 {
		t.Errorf("of 6000 words just %d had no end, and %d were changed", failures, changed)
	}
}

func wantEnd(t *testing.T, change, word string, most int64, expected string, times int64) {
	t.Helper()
	got, count, ok := impl.ChangeEnd(rule(change), spelled(word), 3, most)
	wantSpelled(t, fmt.Sprint("ChangeEnd ", change, " ", word, " ", most), got, ok, expected)
	want(t, fmt.Sprint("times of ChangeEnd ", change, " ", word), count, times)
}

func wantNoEnd(t *testing.T, change, word string, most int64) {
	t.Helper()
	got, times, ok := impl.ChangeEnd(rule(change), spelled(word), 3, most)
	wantListFailure(t, fmt.Sprint("ChangeEnd ", change, " ", word, " ", most), got, ok)
	want(t, fmt.Sprint("times of ChangeEnd ", change, " ", word), times, 0)
}

func TestChangeEnd(t *testing.T) {
	wantEnd(t, "00>0", "000", 5, "0", 2)
	wantEnd(t, "00>0", "000", 2, "0", 2)
	wantNoEnd(t, "00>0", "000", 1)
	wantEnd(t, "0>1", "", 0, "", 0)
	wantEnd(t, "0>1", "121", 0, "121", 0)
	wantNoEnd(t, "0>1", "0", 0)
	wantEnd(t, "0>", "0102", 3, "12", 2)
	wantEnd(t, "0>", zeros(24), 24, "", 24)
	wantNoEnd(t, "0>", zeros(24), 23)
	wantEnd(t, "1[0>1]", "10000", 4, "11111", 4) // it fits at the next place just behind the change
	wantEnd(t, "01>10", "0011", 100, "1100", 4)
	// Each change makes one pair of letters less that are in the other order.
	ordered := strings.Repeat("1", 10) + zeros(10)
	wantEnd(t, "01>10", zeros(10)+strings.Repeat("1", 10), 100, ordered, 100)
	wantNoEnd(t, "01>10", zeros(10)+strings.Repeat("1", 10), 99)
	wantNoEnd(t, "01>10", zeros(10)+strings.Repeat("1", 9)+"01", 100)
}

func TestChangesWithoutEnd(t *testing.T) {
	for _, change := range []string{"0>0", "0>00", "0>010", "0>10", "00>00", "0>0000", "[0>0]1", "1[0>0]"} {
		for _, most := range []int64{0, 1, 50, 99, 100} {
			wantNoEnd(t, change, "100100", most)
			wantNoEnd(t, change, zeros(11)+"1"+zeros(11)+"1", most)
		}
	}
	wantEnd(t, "0>0", "12", 0, "12", 0)
	wantEnd(t, "1>0000", zeros(20)+"1", 1, zeros(24), 1)
	wantNoEnd(t, "1>0000", zeros(21)+"1", 100) // it is too long just behind one change
	wantNoEnd(t, "[1>0000]", "1"+zeros(16)+"11", 100)
}

func TestRunChanges(t *testing.T) {
	for _, c := range []struct{ list, word, expected string }{
		{"", "0120", "0120"},
		{"", "", ""},
		{"01>2 2>0", "01", "0"},
		{"2>0 01>2", "01", "2"},
		{"2>0 01>2", "21", "2"}, // the second change sees what the first one makes
		{"0>1 1>2 2>0", "012", "000"},
		{"0>1 0>2", "00", "11"},
		{"00>0 00>0", "00000000", "00"},
		{"0>00 0>00 0>00", "000", zeros(24)},
		{"0>0000 0000>0", zeros(6), zeros(6)},
		{"0>1 1>0 0>1 1>0 0>1 1>0 0>1 1>2", "01", "22"},
		{"0[1>2]0 2[0>]", "01010", "022"},
	} {
		got, ok := impl.RunChanges(rules(c.list), spelled(c.word), 3)
		wantSpelled(t, fmt.Sprint("RunChanges ", c.list, " ", c.word), got, ok, c.expected)
	}
	for _, c := range [][2]string{
		{"0>0000 0000>0", zeros(7)}, // the word between is too long, though it would become shorter again
		{"0>00 0>00 0>00", "0000"}, {"1>2 0>0000", zeros(7)}, {"0>1 0>1 0>1 0>1 0>1 0>1 0>1 0>1 0>1", "0"},
	} {
		got, ok := impl.RunChanges(rules(c[0]), spelled(c[1]), 3)
		wantListFailure(t, fmt.Sprint("RunChanges ", c), got, ok)
	}
}

func TestRunsOfRandomWords(t *testing.T) {
	r := rand.New(rand.NewSource(52))
	failures := 0
	for range 3000 {
		letters := 1 + r.Int63n(4)
		list, word := randomRules(r, letters, 8, false), randomWord(r, letters, 24)
		expected, isTold := knownRun(list, spelling(word))
		got, ok := impl.RunChanges(list, word, letters)
		wantSpelledIf(t, fmt.Sprint("RunChanges ", list, word), got, ok, expected, isTold)
		if !isTold {
			failures++
		}
	}
	if failures < 300 || failures > 2000 {
		t.Errorf("%d of 3000 runs failed", failures)
	}
}

func TestChangesShared(t *testing.T) {
	r := rand.New(rand.NewSource(53))
	for round := range 400 {
		letters := 1 + r.Int63n(4)
		list, words := randomRules(r, letters, 4, false), [][]int64{}
		for range []int{0, 1, 16, r.Intn(17)}[round%4] {
			words = append(words, randomWord(r, letters, 14))
		}
		expected, isTold := [][]int64{}, true
		for _, word := range words {
			made, ok := impl.RunChanges(list, word, letters)
			expected, isTold = append(expected, made), isTold && ok
		}
		for workers := int64(1); workers <= 8; workers++ {
			got, ok := impl.ChangesShared(list, words, letters, workers)
			what := fmt.Sprint("ChangesShared ", list, words, " by ", workers)
			if isTold {
				wantSpelledAll(t, what, got, ok, spellings(expected))
			} else {
				wantListFailure(t, what, got, ok)
			}
		}
	}
}

func TestSharedWordsStayInTheirOrder(t *testing.T) {
	got, ok := impl.ChangesShared(rules("0>1"), spelledAll("22 0 - 1 0 2"), 3, 3)
	wantSpelledAll(t, "ChangesShared", got, ok, "22 1 - 1 1 2")
	got, ok = impl.ChangesShared(nil, nil, 3, 3)
	wantSpelledAll(t, "ChangesShared of nothing", got, ok, "")
	got, ok = impl.ChangesShared(rules("0>00"), spelledAll("0 "+zeros(12)), 1, 2)
	wantSpelledAll(t, "ChangesShared of a long word", got, ok, "00 "+zeros(24))
	got, ok = impl.ChangesShared(rules("0>00"), spelledAll("0 "+zeros(13)+" 0"), 1, 2)
	wantListFailure(t, "ChangesShared of a word that becomes too long", got, ok)
}

func TestChangesSharedOfOthersFails(t *testing.T) {
	words := slices.Repeat([][]int64{{0}}, 16)
	for _, workers := range append(others(), 0, 9) {
		got, ok := impl.ChangesShared(rules("0>1"), words, 2, workers)
		wantListFailure(t, fmt.Sprint("ChangesShared by ", workers), got, ok)
	}
	got, ok := impl.ChangesShared(rules("0>1"), words, 2, 8)
	wantSpelledAll(t, "ChangesShared of 16 words", got, ok, strings.Repeat("1 ", 15)+"1")
	got, ok = impl.ChangesShared(rules("0>1"), append(words, nil), 2, 8)
	wantListFailure(t, "ChangesShared of 17 words", got, ok)
}

// TestFunctionsOfChangesNeedValidArguments holds for all functions that receive changes, also plain ones.
func TestFunctionsOfChangesNeedValidArguments(t *testing.T) {
	valid, word := rules("0>1"), []int64{0, 1}
	wantAll := func(what string, check func(*testing.T, string, map[string]outcome), list []impl.Change, word []int64, letters int64) {
		t.Helper()
		if len(list) == 1 {
			check(t, what, ofOneChange(list[0], word, letters))
		}
		check(t, what, ofChanges(list, word, letters))
		check(t, what, ofPlainChanges(list, word, letters))
	}
	wantAll("all as it must be", wantOutcomes, valid, word, 3)
	wantAll("no changes", wantOutcomes, nil, word, 3)
	wantAll("no letters in the word", wantOutcomes, valid, nil, 3)
	wantAll("a word of 24 letters", wantOutcomes, valid, make([]int64, 24), 3)
	wantAll("8 changes", wantOutcomes, slices.Repeat(valid, 8), word, 3)
	wantAll("9 changes", wantNoOutcomes, slices.Repeat(valid, 9), word, 3)
	wantAll("a word of 25 letters", wantNoOutcomes, valid, make([]int64, 25), 3)
	wantAll("a word of other letters", wantNoOutcomes, valid, []int64{0, 3}, 3)
	wantAll("a word with the letter -1", wantNoOutcomes, valid, []int64{-1}, 3)
	for what, c := range invalidChanges() {
		wantAll(what, wantNoOutcomes, []impl.Change{c}, word, 3)
		wantAll(what+" at the end", wantNoOutcomes, append(rules("0>1 1>2"), c), word, 3)
	}
	for _, letters := range append(others(), 0, 5) {
		what := fmt.Sprint("letters ", letters)
		wantAll(what, wantNoOutcomes, nil, nil, letters)
		wantAll(what, wantNoOutcomes, valid, word, letters)
		wantNoOutcomes(t, what, ofNoWord(nil, letters))
	}
	for letters := int64(1); letters <= 4; letters++ {
		last := []int64{letters - 1}
		list := []impl.Change{{Find: last}}
		wantAll(fmt.Sprint("the last letter of ", letters), wantOutcomes, list, last, letters)
		wantAll(fmt.Sprint("a letter too many of ", letters-1), wantNoOutcomes, list, last, letters-1)
	}
}

// TestFunctionsWithoutWordsNeedValidChanges holds for all functions that receive no word.
func TestFunctionsWithoutWordsNeedValidChanges(t *testing.T) {
	valid := rule("0>1")
	wantOutcomes(t, "no changes", ofNoWord(nil, 3))
	wantOutcomes(t, "8 changes", ofNoWord(slices.Repeat([]impl.Change{valid}, 8), 3))
	wantNoOutcomes(t, "9 changes", ofNoWord(slices.Repeat([]impl.Change{valid}, 9), 3))
	for what, c := range invalidChanges() {
		wantNoOutcomes(t, what, ofNoWord([]impl.Change{valid, c}, 3))
		for _, pair := range [][2]impl.Change{{valid, c}, {c, valid}} {
			got, ok := impl.OrderWord(pair[0], pair[1], 3, 3)
			wantListFailure(t, "OrderWord with "+what, got, ok)
		}
	}
}

func TestTimesOfOthersFail(t *testing.T) {
	for _, most := range append(others(), 101, 1000) {
		got, times, ok := impl.ChangeEnd(rule("0>1"), []int64{1}, 2, most)
		wantNoOutcomes(t, fmt.Sprint("most ", most), map[string]outcome{"ChangeEnd": {word: got, times: times, ok: ok}})
	}
	for _, most := range append(others(), 201, 1000) {
		wantNoOutcomes(t, fmt.Sprint("most ", most), map[string]outcome{
			"NormalOf":   timesOutcome(impl.NormalOf(rules("0>1"), []int64{1}, 2, most)),
			"LoosePairs": wordsOutcome(impl.LoosePairs(rules("00>0"), 2, most)),
		})
	}
	for _, most := range append(others(), 6, 1000) {
		wantNoOutcomes(t, fmt.Sprint("most ", most), map[string]outcome{
			"SourcesOf": wordsOutcome(impl.SourcesOf(rules("0>1"), []int64{1}, 2, most)),
			"OrderWord": wordOutcome(impl.OrderWord(rule("0>1"), rule("1>0"), 2, most)),
		})
	}
}
