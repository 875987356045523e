package tests

import (
	"fmt"
	"math/rand"
	"slices"
	"testing"

	"loop.example/g01357/impl"
)

// grown returns a change of one letter to four ones.
func grown(r *rand.Rand, c impl.Change, letters int64) impl.Change {
	c.Find, c.Give = c.Find[:1], slices.Repeat([]int64{r.Int63n(letters)}, 4)
	return c
}

// knownSources returns the words of at most most letters that changes lead to a word, and how many of them failed.
func knownSources(list []impl.Change, word []int64, letters int64, most int) (sources [][]int64, failures int) {
	for _, source := range wordsUpTo(letters, most) {
		made, ok := knownRun(list, spelling(source))
		if ok && made == spelling(word) {
			sources = append(sources, source)
		}
		if !ok {
			failures++
		}
	}
	return sources, failures
}

func TestSourcesOf(t *testing.T) {
	for _, c := range []struct {
		list, word    string
		letters, most int64
		expected      string
	}{
		{"00>0", "0", 1, 2, "0 00"},
		{"00>0", "0", 1, 5, "0 00"},
		{"00>0 00>0", "0", 1, 5, "0 00 000 0000"},
		{"", "010", 2, 5, "010"},
		{"", "010", 2, 2, ""},
		{"", "", 4, 0, "-"},
		{"0>", "", 1, 5, "- 0 00 000 0000 00000"},
		{"0>1", "0", 2, 5, ""}, // no word becomes one with the letter 0
		{"0>1", "11", 2, 5, "00 01 10 11"},
		{"0>1 1>2 2>3 3>", "", 4, 1, "- 0 1 2 3"},
		{"1>", "0", 2, 3, "0 01 10 011 101 110"},
		{"0[1>0]", "00", 2, 2, "00 01"},
		{"0>0000", zeros(20), 1, 5, "00000"},
		{"0>0000 1>", zeros(16), 2, 5, "0000 00001 00010 00100 01000 10000"},
		{"0>0000 0>0000 0>", "", 1, 5, "- 0"}, // all words of more letters fail
		{"0>0000 0>000 1>0000", zeros(12), 2, 2, "0"},
		{"0>0000", zeros(24), 1, 5, ""},
	} {
		got, ok := impl.SourcesOf(rules(c.list), spelled(c.word), c.letters, c.most)
		wantSpelledAll(t, fmt.Sprint("SourcesOf ", c), got, ok, c.expected)
	}
}

func TestSourcesOfRandomWords(t *testing.T) {
	r := rand.New(rand.NewSource(54))
	failed, found := 0, 0
	for range 600 {
		letters, most := 1+r.Int63n(4), r.Intn(5)
		list := randomRules(r, letters, 8, false)
		if r.Intn(3) == 0 {
			for i, c := range list {
				list[i] = grown(r, c, letters)
			}
		}
		word := randomWord(r, letters, 4)
		if made, ok := knownRun(list, spelling(randomWord(r, letters, most))); ok {
			word = spelled(made)
		}
		expected, failures := knownSources(list, word, letters, most)
		got, ok := impl.SourcesOf(list, word, letters, int64(most))
		wantSpelledAll(t, fmt.Sprint("SourcesOf ", list, word, letters, most), got, ok, spellings(expected))
		wantWordsInOrder(t, "SourcesOf", got)
		if failures > 0 {
			failed++
		}
		if len(expected) > 1 {
			found++
		}
	}
	if failed < 50 || found < 50 {
		t.Errorf("words failed for %d of 600 lists, and %d had several sources", failed, found)
	}
}

// TestSourcesOfAllWords takes each word of a few letters to what it becomes, and finds it again among the sources.
func TestSourcesOfAllWords(t *testing.T) {
	r := rand.New(rand.NewSource(55))
	for range 30 {
		letters := 1 + r.Int63n(4)
		list, total := randomRules(r, letters, 3, false), 0
		targets := map[string]bool{}
		for _, word := range wordsUpTo(letters, 4) {
			if made, ok := impl.RunChanges(list, word, letters); ok {
				targets[spelling(made)] = true
				total++
			}
		}
		for target := range targets {
			sources, ok := impl.SourcesOf(list, spelled(target), letters, 4)
			want(t, "SourcesOf succeeds", ok, true)
			total -= len(sources)
		}
		want(t, fmt.Sprint("words that are in none or several sources of ", list), total, 0)
	}
}

// knownOrderWord returns the first word for which the order counts, and whether a word before it failed.
func knownOrderWord(a, b impl.Change, letters int64, most int) (found []int64, isThere, hasFailed bool) {
	for _, word := range wordsUpTo(letters, most) {
		one, first := knownRun([]impl.Change{a, b}, spelling(word))
		other, second := knownRun([]impl.Change{b, a}, spelling(word))
		if first && second && one != other {
			return word, true, hasFailed
		}
		hasFailed = hasFailed || !first || !second
	}
	return nil, false, hasFailed
}

func TestOrderWord(t *testing.T) {
	for _, c := range []struct {
		a, b          string
		letters, most int64
		expected      string
	}{
		{"0>1", "1>", 2, 2, "0"},
		{"0>1", "1>0", 2, 1, "0"},
		{"1>", "0>1", 2, 5, "0"},
		{"00>1", "1>0", 2, 5, "00"},
		{"01>10", "10>01", 2, 5, "01"},
		{"00>0", "000>0", 1, 5, "000"},
		{"111[1>0]", "1[1>0]1", 2, 5, "1111"},
		{"3333>2", "2>3", 4, 5, "2222"},
		{"2>3", "3333>2", 4, 4, "2222"},
		{"00[0>1]00", "000[0>1]0", 2, 5, "00000"},
	} {
		got, ok := impl.OrderWord(rule(c.a), rule(c.b), c.letters, c.most)
		wantSpelled(t, fmt.Sprint("OrderWord ", c), got, ok, c.expected)
		got, ok = impl.OrderWord(rule(c.a), rule(c.b), c.letters, int64(len(c.expected)))
		wantSpelled(t, fmt.Sprint("OrderWord of just enough letters ", c), got, ok, c.expected)
		got, ok = impl.OrderWord(rule(c.a), rule(c.b), c.letters, int64(len(c.expected)-1))
		wantListFailure(t, fmt.Sprint("OrderWord of too few letters ", c), got, ok)
	}
}

func TestOrderWordOfChangesInAnyOrder(t *testing.T) {
	for _, c := range [][2]string{
		{"01>2", "01>2"}, {"0>1", "2>3"}, {"0>1", "0>1"}, {"0>0", "1>0"}, {"0000>1", "2>3"},
		// Words with many letters 0 fail in both orders, and other words in just one of them.
		{"0>0000", "0>000"}, {"11[11>0111]1", "1>1101"}, {"1>1101", "11[11>0111]1"}, {"0>0101", "[1>1100]0000"},
		// The order counts just for words of 6 letters.
		{"01[01>2]01", "01[01>3]01"},
	} {
		got, ok := impl.OrderWord(rule(c[0]), rule(c[1]), 4, 5)
		wantListFailure(t, fmt.Sprint("OrderWord ", c), got, ok)
	}
}

func TestOrderOfRandomChanges(t *testing.T) {
	r := rand.New(rand.NewSource(56))
	longest, failures := 0, 0
	for range 1500 {
		letters, most := 1+r.Int63n(3), r.Intn(5)
		a, b := randomRule(r, letters, false), randomRule(r, letters, false)
		if r.Intn(3) == 0 {
			a, b = grown(r, a, letters), grown(r, b, letters)
		}
		expected, isThere, hasFailed := knownOrderWord(a, b, letters, most)
		got, ok := impl.OrderWord(a, b, letters, int64(most))
		wantSpelledIf(t, fmt.Sprint("OrderWord ", a, b, letters, most), got, ok, spelling(expected), isThere)
		longest = max(longest, len(expected))
		if hasFailed {
			failures++
		}
	}
	if longest < 4 || failures < 20 {
		t.Errorf("no word has more than %d letters, and %d pairs of changes failed", longest, failures)
	}
}
