package tests

import (
	"fmt"
	"math"
	"math/rand"
	"slices"
	"testing"

	"loop.example/g01357/impl"
)

// someWords are the words from which uneven is known to learn.
func someWords() [][]int64 { return [][]int64{told(), {2, 2}, {}, {1, 0, 2}} }

// likesOf returns LogChanceOf each word, and whether it can be told.
func likesOf(m impl.Model, words [][]int64) ([]float32, bool) {
	likes := []float32{}
	for _, word := range words {
		x, ok := impl.LogChanceOf(m, word)
		if !ok {
			return nil, false
		}
		likes = append(likes, x)
	}
	return likes, true
}

// blank returns a model like m of zeros alone, for counts.
func blank(m impl.Model) impl.Model {
	return impl.Model{States: m.States, Letters: m.Letters, Starts: make([]float32, len(m.Starts)), Steps: make([]float32, len(m.Steps)), Shows: make([]float32, len(m.Shows))}
}

// sharedRows divides rows of counts of some size by their sums, and takes those of other chances where there are none.
func sharedRows(counts, others []float32, size int64) []float32 {
	all := []float32{}
	for at := 0; at < len(counts); at += int(size) {
		row := counts[at : at+int(size)]
		if sum(row) > 0 {
			all = append(all, divided(row)...)
		} else {
			all = append(all, others[at:at+int(size)]...)
		}
	}
	return all
}

// modelOfCounts returns the model that counts make of m.
func modelOfCounts(counts, m impl.Model) impl.Model {
	return model(m.Letters, sharedRows(counts.Starts, m.Starts, m.States), sharedRows(counts.Steps, m.Steps, m.States), sharedRows(counts.Shows, m.Shows, m.Letters))
}

// knownLearned returns what LearnOnce makes of m, told by HiddenAt and PairAt.
func knownLearned(m impl.Model, words [][]int64) (impl.Model, bool) {
	counts := blank(m)
	for _, word := range words {
		hidden, ok := impl.HiddenAt(m, word, 0)
		for i, x := range hidden {
			counts.Starts[i] += x
		}
		for at, letter := range word {
			hidden, first := impl.HiddenAt(m, word, int64(at))
			pairs, second := impl.PairAt(m, word, int64(at))
			ok = ok && first && second
			for i, x := range hidden {
				counts.Shows[int64(i)*m.Letters+letter] += x
			}
			for i, x := range pairs {
				counts.Steps[i] += x
			}
		}
		if !ok {
			return impl.Model{}, false
		}
	}
	return modelOfCounts(counts, m), true
}

func TestLearningIsTold(t *testing.T) {
	m, words := uneven(), someWords()
	got, ok := impl.LearnOnce(m, words)
	wantModelBits(t, "LearnOnce", got, ok, "3 3 | 3e8d44c4 3e84e3ed 3eedd750 | 3d957cf1 3f3d0535 3e412cb7 3e76ae31 3d8ea2e4 3f308017 3ef5fccb 3e1d829f 3ebb41e6 | 3f28296e 3d446aee 3e971fc7 3c907fcd 3e449118 3f4a57bb 3e785378 3f1245d7 3e3e952c")
	got, ok = impl.LearnRounds(m, words, 7)
	wantModelBits(t, "LearnRounds", got, ok, "3 3 | 3f2847f6 3be95b0c 3eabcaa7 | 3a0a54a5 3f7fc4d7 39c4a3b8 3cfc798c 3d180796 3f6e9bba 3f2a9af9 3423ae5a 3eaaca08 | 3f404856 2e1c15af 3e7edea7 2c712bc0 364fbb12 3f7fffcc 39f650f8 3f7fa873 3a630bcf")
	like, ok := impl.LikeOf(m, words)
	wantBits(t, "LikeOf", []float32{like}, ok, "c12dc3f5")
	likes, ok := impl.LikesShared(m, words, 3)
	wantBits(t, "LikesShared", likes, ok, "c0a57733 c0373a97 00000000 c034e6d7")
	got, ok = impl.FitLetters(m, [][]int64{{0, 2, 1}, {1}, {}, {2, 2}}, [][]int64{{0, 1, 1, 0}, {0, 1}, {1}, {1, 0, 0}})
	wantModelBits(t, "FitLetters", got, ok, "3 3 | 3f000000 3f000000 00000000 | 3eaaaaab 3f2aaaab 00000000 3f2aaaab 3eaaaaab 00000000 3ee66666 3e19999a 3ecccccd | 3eaaaaab 3eaaaaab 3eaaaaab 00000000 3eaaaaab 3f2aaaab 3ea8f5c3 3f0f5c29 3de147ae")
	rest, steps, ok := impl.RestOfModel(m, 0.00001, 50)
	wantBits(t, "RestOfModel", rest, ok, "3e972987 3e83a84c 3ee52e2e")
	want(t, "the steps of RestOfModel", steps, 11)
}

func TestLearningMakesModelsNoLessLikeWords(t *testing.T) {
	eachModel(func(r *rand.Rand, m impl.Model) {
		words := randomWords(r, m.Letters, 8)
		expected, possible := knownLearned(m, words)
		learned, ok := impl.LearnOnce(m, words)
		before, first := impl.LikeOf(m, words)
		want(t, "LikeOf succeeds", first, possible)
		if !possible {
			wantNoModel(t, "LearnOnce of a word with the chance 0", learned, ok)
			return
		}
		wantModel(t, "LearnOnce", learned, ok, expected)
		for range 4 {
			after, second := impl.LikeOf(learned, words)
			if !second || after < before-0.0001 {
				t.Errorf("like words: %v, then %v, %v, for %v", before, after, second, words)
			}
			before = after
			learned, _ = impl.LearnOnce(learned, words)
		}
	})
}

func TestLearnRounds(t *testing.T) {
	eachModel(func(r *rand.Rand, m impl.Model) {
		words, rounds := randomWords(r, m.Letters, 5), r.Int63n(5)
		expected, possible := m, true
		for range rounds {
			if possible {
				expected, possible = impl.LearnOnce(expected, words)
			}
		}
		got, ok := impl.LearnRounds(m, words, rounds)
		if !possible {
			wantNoModel(t, "LearnRounds of a word with the chance 0", got, ok)
			return
		}
		wantModel(t, fmt.Sprint("LearnRounds ", rounds), got, ok, expected)
	})
	got, ok := impl.LearnRounds(uneven(), someWords(), 32)
	want(t, "LearnRounds 32", ok && impl.ValidModel(got), true)
	for _, rounds := range []int64{-1, 33, math.MaxInt64, math.MinInt64} {
		got, ok = impl.LearnRounds(uneven(), someWords(), rounds)
		wantNoModel(t, fmt.Sprint("LearnRounds ", rounds), got, ok)
	}
	// No round asks how likely states are.
	got, ok = impl.LearnRounds(sureRing(2), [][]int64{{1}}, 0)
	wantModel(t, "LearnRounds 0 of a word with the chance 0", got, ok, sureRing(2))
	got, ok = impl.LearnRounds(sureRing(2), [][]int64{{1}}, 1)
	wantNoModel(t, "LearnRounds 1 of a word with the chance 0", got, ok)
}

func TestRowsOfNothingStay(t *testing.T) {
	// Nothing leads to the state 1 before a letter, and nothing from it.
	m := model(2, []float32{1, 0}, []float32{.75, .25, .3, .7}, []float32{.5, .5, .1, .9})
	got, ok := impl.LearnOnce(m, [][]int64{{0}})
	wantModel(t, "LearnOnce of one letter", got, ok, model(2, []float32{1, 0}, m.Steps, []float32{1, 0, .1, .9}))
	got, ok = impl.LearnOnce(m, [][]int64{{}, {}})
	wantModel(t, "LearnOnce of no letters", got, ok, m)
	m.Starts = []float32{.25, .75}
	got, ok = impl.LearnOnce(m, [][]int64{{}})
	wantModel(t, "LearnOnce of no letters", got, ok, m)
	got, ok = impl.LearnOnce(sureRing(4), [][]int64{{0, 1}, {0}})
	wantModel(t, "LearnOnce of a ring", got, ok, sureRing(4))
	got, ok = impl.FitLetters(sureRing(3), [][]int64{{}}, [][]int64{{2}})
	expected := sureRing(3)
	expected.Starts = []float32{0, 0, 1}
	wantModel(t, "FitLetters of no letters", got, ok, expected)
	// One state takes all words, one of a single letter.
	got, ok = impl.LearnOnce(coins(.5, .5), [][]int64{{0, 0, 0, 1}, {1}, {0, 1, 1}})
	wantModel(t, "LearnOnce of one state", got, ok, coins(.5, .5))
	got, ok = impl.LearnOnce(evenModel(1, 1), [][]int64{{0, 0}})
	wantModel(t, "LearnOnce of one letter and state", got, ok, evenModel(1, 1))
	// The counts are the least number and 1.
	got, ok = impl.LearnOnce(faint(), [][]int64{{0}})
	wantModel(t, "LearnOnce of least numbers", got, ok, model(2, []float32{.5, .5, 0}, faint().Steps, faint().Shows))
}

func TestWordsThatCannotBeLearned(t *testing.T) {
	for _, words := range [][][]int64{{{0, 1, 1}}, {{0}, {1}}, {{1}, {0}, {}}} {
		got, ok := impl.LearnOnce(sureRing(2), words)
		wantNoModel(t, fmt.Sprint("LearnOnce of a ring and ", words), got, ok)
		x, ok := impl.LikeOf(sureRing(2), words)
		wantFailure(t, fmt.Sprint("LikeOf of a ring and ", words), x, ok)
		list, ok := impl.LikesShared(sureRing(2), words, 2)
		wantListFailure(t, fmt.Sprint("LikesShared of a ring and ", words), list, ok)
	}
	got, ok := impl.LearnOnce(seldom(), [][]int64{{0}, seldomWord()})
	wantNoModel(t, "LearnOnce of a chance that is rounded to 0", got, ok)
	x, ok := impl.LikeOf(seldom(), [][]int64{seldomWord()})
	wantNear(t, "a twelfth of LikeOf a chance that is rounded to 0", x/12, ok, math.Log(0.0001))
	// States have counts here, but steps have none, as half of the least number is rounded to 0.
	m := model(2, []float32{number(leastSub), 1}, []float32{.5, .5, 0, 1}, []float32{1, 0, 0, 1})
	got, ok = impl.LearnOnce(m, [][]int64{{0}})
	wantNoModel(t, "LearnOnce of steps that are rounded to 0", got, ok)
}

func TestLikesAreShared(t *testing.T) {
	eachModel(func(r *rand.Rand, m impl.Model) {
		words := randomWords(r, m.Letters, 12)
		expected, possible := likesOf(m, words)
		for workers := range int64(8) {
			got, ok := impl.LikesShared(m, words, workers+1)
			if !possible {
				wantListFailure(t, "LikesShared of a word with the chance 0", got, ok)
				continue
			}
			wantNumbers(t, fmt.Sprint("LikesShared by ", workers+1), got, ok, expected...)
		}
		like, ok := impl.LikeOf(m, words)
		if possible {
			wantOne(t, "LikeOf", like, ok, sum(expected))
		} else {
			wantFailure(t, "LikeOf a word with the chance 0", like, ok)
		}
	})
	for _, workers := range []int64{0, -1, 9, math.MaxInt64, math.MinInt64} {
		got, ok := impl.LikesShared(uneven(), someWords(), workers)
		wantListFailure(t, fmt.Sprint("LikesShared by ", workers), got, ok)
	}
}

// wantNoLearning checks that all functions of a model, words and their states fail.
func wantNoLearning(t *testing.T, what string, m impl.Model, words, hidden [][]int64) {
	t.Helper()
	got, ok := impl.LearnOnce(m, words)
	wantNoModel(t, "LearnOnce "+what, got, ok)
	for _, rounds := range []int64{0, 1} {
		got, ok = impl.LearnRounds(m, words, rounds)
		wantNoModel(t, "LearnRounds "+what, got, ok)
	}
	like, ok := impl.LikeOf(m, words)
	wantFailure(t, "LikeOf "+what, like, ok)
	list, ok := impl.LikesShared(m, words, 2)
	wantListFailure(t, "LikesShared "+what, list, ok)
	got, ok = impl.FitLetters(m, words, hidden)
	wantNoModel(t, "FitLetters "+what, got, ok)
}

func TestLearningOfOthersFails(t *testing.T) {
	for what, m := range invalidModels() {
		wantNoLearning(t, "with "+what, m, [][]int64{{0}}, [][]int64{{0, 0}})
	}
	for _, count := range []int{0, 17, 100000} {
		wantNoLearning(t, fmt.Sprint("of ", count, " words"), uneven(), make([][]int64, count), slices.Repeat([][]int64{{0}}, count))
	}
	for _, word := range [][]int64{{3}, {-1}, {math.MaxInt64}, make([]int64, 13)} {
		wantNoLearning(t, fmt.Sprint("of ", word), uneven(), [][]int64{{0}, word}, [][]int64{{0, 0}, make([]int64, len(word)+1)})
	}
}

func TestLearningAtLimits(t *testing.T) {
	words := slices.Repeat([][]int64{make([]int64, 12)}, 16)
	m := evenModel(5, 4)
	got, ok := impl.LearnOnce(m, words)
	want(t, "LearnOnce 16 words", ok && impl.ValidModel(got), true)
	wantNumbers(t, "the first row of Shows behind 16 words", got.Shows[:4], ok, 1, 0, 0, 0)
	got, ok = impl.LearnRounds(m, words, 32)
	want(t, "LearnRounds 16 words", ok && impl.ValidModel(got), true)
	likes, ok := impl.LikesShared(m, words, 8)
	want(t, "LikesShared 16 words", ok && len(likes) == 16, true)
	like, ok := impl.LikeOf(m, words)
	wantNear(t, "a part of LikeOf 16 words", like/192, ok, math.Log(0.25))
	got, ok = impl.FitLetters(m, words, slices.Repeat([][]int64{{0, 1, 2, 3, 4, 0, 1, 2, 3, 4, 0, 1, 2}}, 16))
	want(t, "FitLetters 16 words", ok && impl.ValidModel(got), true)
	wantNumbers(t, "Starts of FitLetters 16 words", got.Starts, ok, 1, 0, 0, 0, 0)
	wantNumbers(t, "the last row of Steps of FitLetters 16 words", got.Steps[20:], ok, 1, 0, 0, 0, 0)
}

func TestFitLetters(t *testing.T) {
	eachModel(func(r *rand.Rand, m impl.Model) {
		words, hidden, counts := randomWords(r, m.Letters, 12), [][]int64{}, blank(m)
		for _, word := range words {
			way := make([]int64, len(word)+1)
			for i := range way {
				way[i] = r.Int63n(m.States)
			}
			hidden = append(hidden, way)
			counts.Starts[way[0]]++
			for at, letter := range word {
				counts.Shows[way[at]*m.Letters+letter]++
				counts.Steps[way[at]*m.States+way[at+1]]++
			}
		}
		got, ok := impl.FitLetters(m, words, hidden)
		wantModel(t, "FitLetters", got, ok, modelOfCounts(counts, m))
	})
}

func TestFitLettersOfOtherStatesFails(t *testing.T) {
	words := [][]int64{{0}, {1, 1}}
	for _, hidden := range [][][]int64{nil, {{0, 0}}, {{0, 0}, {0, 0}}, {{0, 0}, {0, 0, 0, 0}}, {{0, 0}, {0, 0, 3}}, {{0, -1}, {0, 0, 0}}, {{3, 0}, {0, 0, 0}}, {{0, 0}, {0, math.MaxInt64, 0}}, {{0, 0}, {0, 0, 0}, {0}}, {nil, nil}} {
		got, ok := impl.FitLetters(uneven(), words, hidden)
		wantNoModel(t, fmt.Sprint("FitLetters ", hidden), got, ok)
	}
}
