package tests

import (
	"fmt"
	"math/rand"
	"slices"
	"strings"
	"testing"

	"loop.example/g01357/impl"
)

// spelled returns the word whose letters are some digits.
func spelled(digits string) []int64 {
	word := []int64{}
	for _, digit := range digits {
		word = append(word, int64(digit-'0'))
	}
	return word
}

// spelledAll returns the words in a text with blanks between them; - is the word of no letters.
func spelledAll(text string) [][]int64 {
	words := [][]int64{}
	for _, digits := range strings.Fields(text) {
		words = append(words, spelled(strings.Trim(digits, "-")))
	}
	return words
}

// spelling returns the digits of a word.
func spelling(word []int64) string {
	digits := ""
	for _, letter := range word {
		digits += fmt.Sprint(letter)
	}
	return digits
}

// spellings returns the text of words.
func spellings(words [][]int64) string {
	texts := []string{}
	for _, word := range words {
		digits := spelling(word)
		if digits == "" {
			digits = "-"
		}
		texts = append(texts, digits)
	}
	return strings.Join(texts, " ")
}

// zeros returns the digits of a word of so many letters 0.
func zeros(count int) string { return strings.Repeat("0", count) }

// rules returns changes that are told like 01>2, or 1[01>2]0 with letters at the left and at the right, with blanks
// between them.
func rules(text string) []impl.Change {
	list := []impl.Change{}
	for _, part := range strings.Fields(text) {
		if !strings.Contains(part, "[") {
			part = "[" + part + "]"
		}
		left, rest, _ := strings.Cut(part, "[")
		find, rest, _ := strings.Cut(rest, ">")
		give, right, _ := strings.Cut(rest, "]")
		list = append(list, impl.Change{Left: spelled(left), Find: spelled(find), Give: spelled(give), Right: spelled(right)})
	}
	return list
}

// rule returns the only one of some changes.
func rule(text string) impl.Change { return rules(text)[0] }

// randomRule returns a change that is rather short; its letters are those of rows of just one or two letters, so that it
// often fits.
func randomRule(r *rand.Rand, letters int64, isPlain bool) impl.Change {
	part := func(least, most int) []int64 {
		return append(randomWord(r, letters, most-least), slices.Repeat([]int64{r.Int63n(letters)}, least)...)
	}
	c := impl.Change{Find: part(1, 1+r.Intn(4)), Give: part(0, r.Intn(5))}
	if !isPlain && r.Intn(3) > 0 {
		c.Left, c.Right = part(0, r.Intn(3)), part(0, r.Intn(3))
	}
	return c
}

// randomRules returns at most most changes.
func randomRules(r *rand.Rand, letters int64, most int, isPlain bool) []impl.Change {
	list := []impl.Change{}
	for range r.Intn(most + 1) {
		list = append(list, randomRule(r, letters, isPlain))
	}
	return list
}

// knownPlaces tells by texts where a change fits.
func knownPlaces(c impl.Change, text string) []int64 {
	places := []int64{}
	for at := range text {
		if strings.HasSuffix(text[:at], spelling(c.Left)) && strings.HasPrefix(text[at:], spelling(c.Find)+spelling(c.Right)) {
			places = append(places, int64(at))
		}
	}
	return places
}

// knownFirst returns a text changed at the first place, and whether there is one.
func knownFirst(c impl.Change, text string) (string, bool) {
	for _, at := range knownPlaces(c, text) {
		return text[:at] + spelling(c.Give) + text[int(at)+len(c.Find):], true
	}
	return text, false
}

// knownAll returns a text changed at those of all places that are not within a Find before.
func knownAll(c impl.Change, text string) string {
	made, end := "", 0
	for _, at := range knownPlaces(c, text) {
		if int(at) >= end {
			made += text[end:at] + spelling(c.Give)
			end = int(at) + len(c.Find)
		}
	}
	return made + text[end:]
}

// knownRun returns a text behind all changes, and whether no text on the way is too long.
func knownRun(list []impl.Change, text string) (string, bool) {
	for _, c := range list {
		text = knownAll(c, text)
		if len(text) > 24 {
			return "", false
		}
	}
	return text, true
}

// knownNormal returns what a text becomes, behind how many changes, and whether it comes to an end.
func knownNormal(list []impl.Change, text string, most int64) (string, int64, bool) {
	for _, c := range list {
		made, fits := knownFirst(c, text)
		if !fits {
			continue
		}
		if most == 0 || len(made) > 24 {
			return "", 0, false
		}
		end, times, ok := knownNormal(list, made, most-1)
		if !ok {
			return "", 0, false
		}
		return end, times + 1, true
	}
	return text, 0, true
}

// wantSpelled checks a word that is told.
func wantSpelled(t *testing.T, what string, got []int64, ok bool, expected string) {
	t.Helper()
	if !ok || spelling(got) != expected {
		t.Errorf("%s: got %v, %v, want %s", what, got, ok, expected)
	}
}

// wantSpelledAll checks words that are told.
func wantSpelledAll(t *testing.T, what string, got [][]int64, ok bool, expected string) {
	t.Helper()
	if !ok || spellings(got) != expected {
		t.Errorf("%s: got %v, %v, want %s", what, got, ok, expected)
	}
}

// wantSpelledIf checks a word that is told just if expected.
func wantSpelledIf(t *testing.T, what string, got []int64, ok bool, expected string, isTold bool) {
	t.Helper()
	if isTold {
		wantSpelled(t, what, got, ok, expected)
	} else {
		wantListFailure(t, what, got, ok)
	}
}

// outcome is what a function of changes returns.
type outcome struct {
	word  []int64
	words [][]int64
	times int64
	ok    bool
}

// wantNoOutcomes checks that all of some calls failed.
func wantNoOutcomes(t *testing.T, what string, all map[string]outcome) {
	t.Helper()
	for name, o := range all {
		if o.ok || len(o.word)+len(o.words) != 0 || o.times != 0 {
			t.Errorf("%s with %s: got %v, want a failure", name, what, o)
		}
	}
}

// wantOutcomes checks that all of some calls succeeded.
func wantOutcomes(t *testing.T, what string, all map[string]outcome) {
	t.Helper()
	for name, o := range all {
		want(t, name+" with "+what+" succeeds", o.ok, true)
	}
}

func wordOutcome(word []int64, ok bool) outcome        { return outcome{word: word, ok: ok} }
func wordsOutcome(words [][]int64, ok bool) outcome    { return outcome{words: words, ok: ok} }
func timesOutcome(w []int64, n int64, ok bool) outcome { return outcome{word: w, times: n, ok: ok} }

// ofOneChange returns what all functions tell of a change and a word.
func ofOneChange(c impl.Change, word []int64, letters int64) map[string]outcome {
	return map[string]outcome{
		"PlacesOf":    wordOutcome(impl.PlacesOf(c, word, letters)),
		"ChangeFirst": wordOutcome(impl.ChangeFirst(c, word, letters)),
		"ChangeAll":   wordOutcome(impl.ChangeAll(c, word, letters)),
		"ChangeEnd":   timesOutcome(impl.ChangeEnd(c, word, letters, 100)),
	}
}

// ofChanges returns what all functions tell of changes and a word.
func ofChanges(list []impl.Change, word []int64, letters int64) map[string]outcome {
	return map[string]outcome{
		"RunChanges":    wordOutcome(impl.RunChanges(list, word, letters)),
		"SourcesOf":     wordsOutcome(impl.SourcesOf(list, word, letters, 1)),
		"ChangesShared": wordsOutcome(impl.ChangesShared(list, [][]int64{{}, word}, letters, 2)),
	}
}

// ofPlainChanges returns what all functions that require plain changes tell of these and a word.
func ofPlainChanges(list []impl.Change, word []int64, letters int64) map[string]outcome {
	return map[string]outcome{
		"NormalOf":      timesOutcome(impl.NormalOf(list, word, letters, 200)),
		"Transliterate": wordOutcome(impl.Transliterate(list, word, letters)),
		"BackLiterate":  wordsOutcome(impl.BackLiterate(list, word, letters)),
	}
}

// ofNoWord returns what all functions tell of plain changes alone.
func ofNoWord(list []impl.Change, letters int64) map[string]outcome {
	return map[string]outcome{
		"OverlapsOf":    wordsOutcome(impl.OverlapsOf(list, letters)),
		"LoosePairs":    wordsOutcome(impl.LoosePairs(list, letters, 200)),
		"ChangesShared": wordsOutcome(impl.ChangesShared(list, nil, letters, 1)),
	}
}

// isLess reports whether a word comes before another one, in the order of lengths and letters.
func isLess(a, b []int64) bool {
	if len(a) != len(b) {
		return len(a) < len(b)
	}
	return slices.Compare(a, b) < 0
}

// wantWordsInOrder checks that words are in the order of lengths and letters, each once.
func wantWordsInOrder(t *testing.T, what string, words [][]int64) {
	t.Helper()
	for i := range len(words) - 1 {
		if !isLess(words[i], words[i+1]) {
			t.Errorf("%s: %v does not come before %v", what, words[i], words[i+1])
		}
	}
}

func TestLimitsOfChapter5(t *testing.T) {
	wantSame(t, "limits", []int{impl.MaxChanges, impl.MaxLong, impl.MaxSides, impl.MaxPairs}, []int{8, 24, 8, 48})
}
