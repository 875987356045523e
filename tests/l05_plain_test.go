package tests

import (
	"fmt"
	"math/rand"
	"strings"
	"testing"

	"loop.example/g01357/impl"
)

// knownOverlap is a word in which two changes meet, and the words that the former and the latter make of it.
type knownOverlap struct {
	word, first, second string
}

// knownOverlaps lays each Find over the end of each one, as far as both tell the same letters.
func knownOverlaps(list []impl.Change) []knownOverlap {
	all := []knownOverlap{}
	for i, a := range list {
		for j, b := range list {
			one, other := spelling(a.Find), spelling(b.Find)
			for shared := 1; shared <= min(len(one), len(other)); shared++ {
				word := one + other[shared:]
				if !strings.HasSuffix(word, other) || i == j && shared == len(one) {
					continue
				}
				before, _ := strings.CutSuffix(word, other)
				behind, _ := strings.CutPrefix(word, one)
				all = append(all, knownOverlap{word, spelling(a.Give) + behind, before + spelling(b.Give)})
			}
		}
	}
	return all
}

// knownLoose returns the words of overlaps that become different ones, and whether all of these come to an end.
func knownLoose(list []impl.Change, most int64) (string, bool) {
	words := []string{}
	for _, o := range knownOverlaps(list) {
		one, _, first := knownNormal(list, o.first, most)
		other, _, second := knownNormal(list, o.second, most)
		if !first || !second {
			return "", false
		}
		if one != other {
			words = append(words, o.word)
		}
	}
	return strings.Join(words, " "), true
}

func overlapText(list []impl.Change) string {
	words := []string{}
	for _, o := range knownOverlaps(list) {
		words = append(words, o.word)
	}
	return strings.Join(words, " ")
}

func TestOverlapsOf(t *testing.T) {
	for _, c := range [][2]string{
		{"", ""},
		{"0>1", ""},
		{"0>1 1>0", ""},
		{"00>0", "000"},
		{"0000>", "0000000 000000 00000"},
		{"01>2", ""},
		{"010>", "01010"},
		{"0101>", "010101"},
		{"01>2 10>2", "010 101"},
		{"10>2 01>2", "101 010"},
		{"01>2 12>0", "012"},
		{"12>0 01>2", "012"},
		{"00>1 000>1", "000 0000 000 0000 000 00000 0000"},
		{"0>1 00>1", "00 00 000"},
		{"012>1 1>0", ""},                      // a Find within another one, but not at an end, does not meet it
		{"011>1 1>0", "011"},                   // at the end
		{"1>0 110>1", "110"},                   // at the beginning
		{"0>1 0>2", "0 0"},                     // of two changes, all letters can be shared
		{"01>1 01>1", "01 01"},                 // also if they are equal
		{"00>1 00>1", "000 000 00 000 00 000"}, // those of the former first, of few shared letters first
	} {
		got, ok := impl.OverlapsOf(rules(c[0]), 3)
		wantSpelledAll(t, "OverlapsOf "+c[0], got, ok, c[1])
	}
}

func TestOverlapsOfRandomChanges(t *testing.T) {
	r := rand.New(rand.NewSource(57))
	longest := 0
	for range 2000 {
		letters := 1 + r.Int63n(4)
		list := randomRules(r, letters, 8, true)
		got, ok := impl.OverlapsOf(list, letters)
		wantSpelledAll(t, fmt.Sprint("OverlapsOf ", list), got, ok, overlapText(list))
		longest = max(longest, len(got))
	}
	if longest < 64 {
		t.Errorf("no changes have more than %d overlaps", longest)
	}
}

func wantNormal(t *testing.T, list, word string, most int64, expected string, times int64) {
	t.Helper()
	got, count, ok := impl.NormalOf(rules(list), spelled(word), 4, most)
	wantSpelled(t, fmt.Sprint("NormalOf ", list, " ", word, " ", most), got, ok, expected)
	want(t, fmt.Sprint("times of NormalOf ", list, " ", word), count, times)
}

func wantNotNormal(t *testing.T, list, word string, most int64) {
	t.Helper()
	got, times, ok := impl.NormalOf(rules(list), spelled(word), 4, most)
	wantListFailure(t, fmt.Sprint("NormalOf ", list, " ", word, " ", most), got, ok)
	want(t, fmt.Sprint("times of NormalOf ", list, " ", word), times, 0)
}

func TestNormalOf(t *testing.T) {
	wantNormal(t, "00>0", "000", 9, "0", 2)
	wantNormal(t, "00>0", "000", 2, "0", 2)
	wantNotNormal(t, "00>0", "000", 1)
	wantNormal(t, "", "0123", 0, "0123", 0)
	wantNormal(t, "", "", 200, "", 0)
	wantNormal(t, "0>1", "", 0, "", 0)
	wantNormal(t, "0>1", "123", 0, "123", 0)
	wantNotNormal(t, "0>1", "0", 0)
	wantNormal(t, "1>2 0>1", "00", 4, "22", 4) // the first change comes first whenever it fits
	wantNormal(t, "01>2 12>3", "012", 9, "22", 1)
	wantNormal(t, "12>3 01>2", "012", 9, "03", 1)
	wantNormal(t, "1>2 0>3", "01", 9, "32", 2)
	wantNormal(t, "10> 01>", "0110", 9, "", 2)
	wantNormal(t, "001>1 1>", "0010", 9, "0", 2)
	wantNormal(t, "1>0000 0000>2", "1"+zeros(20), 9, "222222", 7)
	wantNotNormal(t, "1>0000 0000>2", "1"+zeros(21), 200) // it is too long just behind one change
	wantNormal(t, "0000>2 1>0000", "1"+zeros(21), 200, "2222220", 7)
}

// swaps put each two letters in descending order.
const swaps = "01>10 02>20 03>30 12>21 13>31 23>32"

func TestNormalOfManyTimes(t *testing.T) {
	// Each change makes one pair of letters less that are in ascending order, of 6 * 36 at first.
	word := zeros(6) + strings.Repeat("1", 6) + strings.Repeat("2", 6) + strings.Repeat("3", 6)
	ordered := strings.Repeat("3", 6) + strings.Repeat("2", 6) + strings.Repeat("1", 6) + zeros(6)
	wantNotNormal(t, swaps, word, 200)
	for pairs := int64(216); pairs > 190; pairs-- {
		if pairs <= 200 {
			wantNormal(t, swaps, word, pairs, ordered, pairs)
			wantNormal(t, swaps, word, 200, ordered, pairs)
		} else {
			wantNotNormal(t, swaps, word, 200)
		}
		wantNotNormal(t, swaps, word, min(200, pairs-1))
		for _, c := range rules(swaps) {
			if made, fits := knownFirst(c, word); fits {
				word = made
				break
			}
		}
	}
}

func TestNormalOfChangesWithoutEnd(t *testing.T) {
	for _, list := range []string{"0>0", "0>00", "0>1 1>0", "01>10 10>01", "1>2 0>0", "2>2 0>3 3>0", "0>123 3>0"} {
		for _, most := range []int64{0, 1, 2, 100, 199, 200} {
			wantNotNormal(t, list, "0102", most)
		}
	}
	wantNormal(t, "0>0", "123", 0, "123", 0)
	wantNormal(t, "3>0 0>3", "12", 200, "12", 0)
}

func TestNormalOfRandomWords(t *testing.T) {
	r := rand.New(rand.NewSource(58))
	failures, changed := 0, 0
	for range 3000 {
		letters, most := 1+r.Int63n(4), r.Int63n(201)
		list, word := randomRules(r, letters, 4, true), randomWord(r, letters, 24)
		expected, times, ends := knownNormal(list, spelling(word), most)
		got, count, ok := impl.NormalOf(list, word, letters, most)
		wantSpelledIf(t, fmt.Sprint("NormalOf ", list, word, most), got, ok, expected, ends)
		want(t, fmt.Sprint("times of NormalOf ", list, word), count, times)
		if !ends {
			failures++
		}
		if times > 1 {
			changed++
			got, count, ok = impl.NormalOf(list, word, letters, times)
			wantSpelled(t, fmt.Sprint("NormalOf with just enough times ", list, word), got, ok, expected)
			want(t, "all times", count, times)
			got, count, ok = impl.NormalOf(list, word, letters, times-1)
			wantListFailure(t, fmt.Sprint("NormalOf with a time too few ", list, word), got, ok)
			want(t, "times of a failure", count, 0)
		}
	}
	if failures < 300 || changed < 300 {
		t.Errorf("of 3000 words %d had no end, and %d were changed", failures, changed)
	}
}

func TestLoosePairs(t *testing.T) {
	for _, c := range []struct {
		list     string
		most     int64
		expected string
	}{
		{"", 0, ""},
		{"00>0", 9, ""}, // the example of the document
		{"00>0", 1, ""},
		{"00>1", 0, "000"}, // 10 and 01
		{"00>1 10>01", 9, ""},
		{"01>2 12>0", 9, "012"},    // 22 and 00
		{"01>0 12>1", 9, "012"},    // 02 and 0
		{"01>0 12>1 02>0", 9, ""},  // both 0
		{"0>1 0>2", 9, "0 0"},      // the same word twice, as both changes meet there in either order
		{"0>1 0>1", 9, ""},         // equal changes
		{"0>1 0>2 1>2", 9, ""},     // brought to an end, both are 2
		{"0>1 0>2 1>3", 9, "0 0"},  // 3 and 2
		{"010>2", 9, "01010"},      // 210 and 012
		{"000>1", 9, "00000 0000"}, // 100 and 001, 10 and 01
		{"0>0 1>1", 0, ""},         // without end, but without overlaps
		{"01> 10>", 0, ""},         // 0 and 0, 1 and 1
	} {
		got, ok := impl.LoosePairs(rules(c.list), 4, c.most)
		wantSpelledAll(t, "LoosePairs "+c.list, got, ok, c.expected)
	}
	for _, c := range []struct {
		list string
		most int64
	}{
		{"00>0", 0}, {"00>1 1>1", 200}, {"00>1 1>11", 200}, {"01>0 12>1 02>0", 0}, {"00>01 1>0", 200}, {"0>1 0>2 1>2", 0}, {"0>1 0>2 2>2", 200},
	} {
		got, ok := impl.LoosePairs(rules(c.list), 4, c.most)
		wantListFailure(t, fmt.Sprint("LoosePairs ", c), got, ok)
	}
}

func TestLoosePairsOfRandomChanges(t *testing.T) {
	r := rand.New(rand.NewSource(59))
	failures, loose, several := 0, 0, 0
	for range 3000 {
		letters, most := 1+r.Int63n(4), r.Int63n(201)
		list := randomRules(r, letters, 4, true)
		if r.Intn(2) == 0 {
			for i, c := range list {
				list[i].Give = c.Give[:r.Intn(min(len(c.Give), len(c.Find)-1)+1)]
			}
		}
		expected, isTold := knownLoose(list, most)
		got, ok := impl.LoosePairs(list, letters, most)
		if isTold {
			wantSpelledAll(t, fmt.Sprint("LoosePairs ", list, most), got, ok, expected)
		} else {
			wantListFailure(t, fmt.Sprint("LoosePairs ", list, most), got, ok)
			failures++
		}
		if len(got) > 0 {
			loose++
		}
		if overlaps, _ := impl.OverlapsOf(list, letters); ok && len(overlaps) > len(got) && len(got) > 1 {
			several++
		}
	}
	if failures < 200 || loose < 300 || several < 100 {
		t.Errorf("%d of 3000 lists of changes failed, %d had loose pairs, and %d not just these", failures, loose, several)
	}
}

// TestChangesWithoutLoosePairsEndAlike takes changes that make words shorter, so that all ways end, in any order.
func TestChangesWithoutLoosePairsEndAlike(t *testing.T) {
	r := rand.New(rand.NewSource(60))
	checked := 0
	for range 2000 {
		list := randomRules(r, 2, 3, true)
		for i, c := range list {
			list[i].Give = c.Give[:min(len(c.Give), len(c.Find)-1)]
		}
		pairs, ok := impl.LoosePairs(list, 2, 200)
		want(t, fmt.Sprint("LoosePairs succeeds for ", list), ok, true)
		// A Find within another one can tell words apart without an overlap.
		if len(pairs) > 0 || isOneWithin(list) {
			continue
		}
		checked++
		word := spelling(randomWord(r, 2, 12))
		expected, _, _ := impl.NormalOf(list, spelled(word), 2, 200)
		for again := true; again; {
			again = false
			for _, i := range r.Perm(len(list)) {
				if places := knownPlaces(list[i], word); len(places) > 0 {
					at := int(places[r.Intn(len(places))])
					word, again = word[:at]+spelling(list[i].Give)+word[at+len(list[i].Find):], true
				}
			}
		}
		want(t, fmt.Sprint("the end of ", list), word, spelling(expected))
	}
	if checked < 200 {
		t.Errorf("just %d lists of changes have no loose pairs", checked)
	}
}

// isOneWithin reports whether a Find is within another one, but not at an end of it.
func isOneWithin(list []impl.Change) bool {
	for _, a := range list {
		for _, b := range list {
			if find := spelling(a.Find); len(find) > 2 && strings.Contains(find[1:len(find)-1], spelling(b.Find)) {
				return true
			}
		}
	}
	return false
}

// TestPlainChangesAreRequired holds for all functions that require them, and just for these.
func TestPlainChangesAreRequired(t *testing.T) {
	for _, text := range []string{"0[0>1]", "[0>1]0", "1[1>1]1", "0>1 1>0 [2>2]2", "2[2>] 0>1"} {
		list := rules(text)
		wantNoOutcomes(t, text, ofPlainChanges(list, []int64{1}, 3))
		wantNoOutcomes(t, text, ofPlainChanges(list, nil, 3))
		all := ofNoWord(list, 3)
		want(t, "ChangesShared succeeds for "+text, all["ChangesShared"].ok, true)
		delete(all, "ChangesShared")
		wantNoOutcomes(t, text, all)
		wantOutcomes(t, text, ofChanges(list, []int64{1}, 3))
		wantOutcomes(t, text, ofOneChange(list[0], nil, 3))
	}
}
