package tests

import (
	"fmt"
	"math/rand"
	"slices"
	"testing"

	"loop.example/g01357/impl"
)

// listsOf returns all lists of so many numbers below base, in order.
func listsOf(base, count int64) [][]int64 {
	lists := [][]int64{nil}
	for range count {
		longer := [][]int64{}
		for _, list := range lists {
			for n := range base {
				longer = append(longer, append(slices.Clone(list), n))
			}
		}
		lists = longer
	}
	return lists
}

// knownFits reports whether a plain machine reads all good words and no bad ones.
func knownFits(p impl.Plain, good, bad [][]int64) bool {
	reads := func(word []int64) bool { return knownReads(p, word) }
	fails := func(word []int64) bool { return !reads(word) }
	return !slices.ContainsFunc(good, fails) && !slices.ContainsFunc(bad, reads)
}

// knownFit returns the first one of all plain machines that fits, all of which are tried in order.
func knownFit(letters int64, good, bad [][]int64) (impl.Plain, bool) {
	for states := range int64(3) {
		for _, next := range listsOf(states+1, (states+1)*letters) {
			for _, ends := range listsOf(2, states+1) {
				p := plain(letters, next, ends...)
				if knownFits(p, good, bad) {
					return p, true
				}
			}
		}
	}
	return impl.Plain{}, false
}

// samples returns some of the words of at most 4 letters, for good and for bad ones.
func samples(r *rand.Rand, letters int64, isGood func(word []int64) bool) (good, bad [][]int64) {
	for _, word := range wordsUpTo(letters, 4) {
		if r.Intn(3) == 0 {
			continue
		}
		if isGood(word) && len(good) < 24 {
			good = append(good, word)
		} else if !isGood(word) && len(bad) < 24 {
			bad = append(bad, word)
		}
	}
	return good, bad
}

func TestLeastFitIsTheFirstOfAllThatFit(t *testing.T) {
	r := rand.New(rand.NewSource(42))
	failures := 0
	for range 120 {
		letters := 1 + r.Int63n(2)
		p, often := randomPlain(r, letters), 2+r.Intn(20)
		good, bad := samples(r, letters, func(word []int64) bool { return knownReads(p, word) != (r.Intn(often) == 0) })
		expected, fits := knownFit(letters, good, bad)
		got, ok := impl.LeastFit(letters, good, bad)
		want(t, fmt.Sprint("LeastFit succeeds for ", good, bad), ok, fits)
		wantSame(t, fmt.Sprint("LeastFit ", good, bad), got, expected)
		if !ok {
			failures++
		}
	}
	if failures < 10 || failures > 90 {
		t.Errorf("%d of 120 samples fit no machine", failures)
	}
}

// TestLeastFitOfAllWordsIsSmallest takes all words of at most 5 letters, by one of which machines of 3 states and fewer
// are told apart.
func TestLeastFitOfAllWordsIsSmallest(t *testing.T) {
	for _, ends := range listsOf(2, 3) {
		for _, next := range listsOf(3, 3) {
			p := plain(1, next, ends...)
			good, bad := [][]int64{}, [][]int64{}
			for _, word := range wordsUpTo(1, 5) {
				if knownReads(p, word) {
					good = append(good, word)
				} else {
					bad = append(bad, word)
				}
			}
			fit, ok := impl.LeastFit(1, good, bad)
			least, _ := impl.LeastPlain(p)
			want(t, "LeastFit succeeds", ok, true)
			want(t, fmt.Sprint("states for ", p), fit.States, least.States)
			word, ok := impl.ApartWord(p, fit)
			wantListFailure(t, fmt.Sprint("ApartWord of ", p, fit), word, ok)
		}
	}
}

func TestLeastFit(t *testing.T) {
	for _, c := range []struct {
		letters   int64
		good, bad [][]int64
		expected  impl.Plain
	}{
		{1, nil, nil, plain(1, []int64{0}, 0)},
		{2, nil, nil, plain(2, []int64{0, 0}, 0)},
		{2, nil, [][]int64{{}, {1, 0}}, plain(2, []int64{0, 0}, 0)},
		{2, [][]int64{{}, {1, 0}}, nil, plain(2, []int64{0, 0}, 1)},
		{1, [][]int64{{0}}, [][]int64{{}}, plain(1, []int64{1, 0}, 0, 1)},
		{1, [][]int64{{0}, {0, 0}}, [][]int64{{}}, plain(1, []int64{1, 1}, 0, 1)},
		{2, [][]int64{{1}}, [][]int64{{0}}, plain(2, []int64{0, 1, 0, 0}, 0, 1)},
		{1, [][]int64{{0, 0}}, [][]int64{{}, {0}}, plain(1, []int64{1, 2, 0}, 0, 0, 1)},
		{1, [][]int64{{0}, {0}}, [][]int64{{}, {}}, plain(1, []int64{1, 0}, 0, 1)},
	} {
		got, ok := impl.LeastFit(c.letters, c.good, c.bad)
		wantPlain(t, fmt.Sprint("LeastFit ", c.letters, c.good, c.bad), got, ok, c.expected)
	}
}

func TestSamplesThatFitNoMachine(t *testing.T) {
	wanted := map[string][2][][]int64{
		"words that contradict one another": {{{0, 1}}, {{0, 1}}},
		"no letters good and bad":           {{{}, {0}}, {{1}, {}}},
		"four states":                       {{{0, 0, 0}}, {{}, {0}, {0, 0}, {0, 0, 0, 0}, {0, 0, 0, 0, 0}}},
	}
	for what, c := range wanted {
		got, ok := impl.LeastFit(2, c[0], c[1])
		wantNoPlain(t, "LeastFit with "+what, got, ok)
	}
}

func TestLeastFitAtLimits(t *testing.T) {
	twelve := make([]int64, 12)
	words := slices.Repeat([][]int64{twelve}, 24)
	empty := slices.Repeat([][]int64{{}}, 24)
	got, ok := impl.LeastFit(1, words, empty)
	wantPlain(t, "LeastFit of 24 words of 12 letters", got, ok, plain(1, []int64{1, 1}, 0, 1))
	for what, c := range map[string]struct {
		letters   int64
		good, bad [][]int64
	}{
		"25 good words":        {1, append(words, twelve), nil},
		"25 bad words":         {1, nil, append(words, twelve)},
		"a word of 13 letters": {1, [][]int64{make([]int64, 13)}, nil},
		"a bad word of 13":     {1, nil, [][]int64{make([]int64, 13)}},
		"another good letter":  {2, [][]int64{{0, 2}}, nil},
		"another bad letter":   {1, nil, [][]int64{{1}}},
		"the letter -1":        {2, [][]int64{{-1}}, nil},
		"no letters":           {0, nil, nil},
		"3 letters":            {3, nil, nil},
		"-1 letters":           {-1, nil, nil},
	} {
		got, ok := impl.LeastFit(c.letters, c.good, c.bad)
		wantNoPlain(t, "LeastFit with "+what, got, ok)
	}
	for _, n := range others() {
		got, ok := impl.LeastFit(n, nil, nil)
		wantNoPlain(t, fmt.Sprint("LeastFit with letters ", n), got, ok)
	}
}

// pupil learns as the document tells, with whole words and a question for each answer.
type pupil struct {
	teacher      impl.Plain
	words, tests [][]int64
}

func (p *pupil) row(word []int64) string {
	row := ""
	for _, test := range p.tests {
		row += fmt.Sprint(knownReads(p.teacher, slices.Concat(word, test)), " ")
	}
	return row
}

// place returns the index of the word with the same row, or -1.
func (p *pupil) place(word []int64) int {
	return slices.IndexFunc(p.words, func(other []int64) bool { return p.row(other) == p.row(word) })
}

func (p *pupil) grow() {
	for at := 0; at < len(p.words); at++ {
		for letter := range p.teacher.Letters {
			if word := append(slices.Clone(p.words[at]), letter); p.place(word) < 0 {
				p.words = append(p.words, word)
			}
		}
	}
}

func (p *pupil) guess() impl.Plain {
	guess := impl.Plain{States: int64(len(p.words)), Letters: p.teacher.Letters}
	for _, word := range p.words {
		for letter := range p.teacher.Letters {
			guess.Next = append(guess.Next, int64(p.place(append(slices.Clone(word), letter))))
		}
		guess.Ends = append(guess.Ends, knownReads(p.teacher, word))
	}
	return guess
}

func knownLearning(teacher impl.Plain) (impl.Plain, int64) {
	p := pupil{teacher, [][]int64{nil}, [][]int64{nil}}
	for guesses := int64(1); ; guesses++ {
		p.grow()
		guess := p.guess()
		word, apart := impl.ApartWord(teacher, guess)
		if !apart {
			return guess, guesses
		}
		for from := range word {
			if !slices.ContainsFunc(p.tests, func(test []int64) bool { return slices.Equal(test, word[from:]) }) {
				p.tests = append(p.tests, word[from:])
			}
		}
	}
}

func TestLearningByQuestions(t *testing.T) {
	r := rand.New(rand.NewSource(43))
	most := int64(0)
	for range 300 {
		teacher := randomPlain(r, 1+r.Int63n(4))
		expected, guesses := knownLearning(teacher)
		got, count, ok := impl.LearnPlain(teacher)
		wantPlain(t, fmt.Sprint("LearnPlain ", teacher), got, ok, expected)
		want(t, fmt.Sprint("guesses for ", teacher), count, guesses)
		most = max(most, count)
	}
	if most < 3 {
		t.Errorf("no teacher took more than %d guesses", most)
	}
}

// TestLearnedMachinesAreSmallest holds for teachers that a short word tells apart from each wrong guess.
func TestLearnedMachinesAreSmallest(t *testing.T) {
	r := rand.New(rand.NewSource(44))
	for range 300 {
		teacher := randomPlain(r, 1+r.Int63n(4))
		got, guesses, ok := impl.LearnPlain(teacher)
		least, _ := impl.LeastPlain(teacher)
		want(t, "LearnPlain succeeds", ok, true)
		want(t, fmt.Sprint("states for ", teacher), got.States, least.States)
		if guesses < 1 || guesses > got.States {
			t.Errorf("%d guesses for %d states", guesses, got.States)
		}
		same, _ := impl.LeastPlain(got)
		wantSame(t, fmt.Sprint("LeastPlain of what is learned of ", teacher), same, least)
		word, ok := impl.ApartWord(teacher, got)
		wantListFailure(t, "ApartWord of teacher and guess", word, ok)
	}
}

func wantLearned(t *testing.T, what string, teacher, expected impl.Plain, guesses int64) {
	t.Helper()
	got, count, ok := impl.LearnPlain(teacher)
	wantPlain(t, "LearnPlain "+what, got, ok, expected)
	want(t, "guesses for "+what, count, guesses)
}

func TestLearnPlain(t *testing.T) {
	wantLearned(t, "an even number of letters", even(), even(), 1)
	wantLearned(t, "nothing", plain(2, []int64{1, 1, 0, 0}, 0, 0), plain(2, []int64{0, 0}, 0), 1)
	wantLearned(t, "everything", plain(4, []int64{1, 1, 1, 1, 1, 1, 1, 1}, 1, 1), plain(4, []int64{0, 0, 0, 0}, 1), 1)
	wantLearned(t, "everything but no letters", plain(1, []int64{1, 1}, 0, 1), plain(1, []int64{1, 1}, 0, 1), 1)
	wantLearned(t, "multiples of 3 letters", cycle(3, 0), cycle(3, 0), 2)
	wantLearned(t, "12 letters modulo 13", cycle(13, 12), cycle(13, 12), 2)
	wantLearned(t, "no letters modulo 64", cycle(64, 0), plain(1, []int64{1, 1}, 1, 0), 1)
	// The word 0 has the row of no letters until 0 1 tells both apart, so that its state comes behind that of the word 1.
	wantLearned(t, "states in the order of their words", plain(2, []int64{1, 2, 1, 0, 1, 2}, 0, 0, 1), plain(2, []int64{2, 1, 2, 1, 2, 0}, 0, 1, 0), 2)
}

// TestTeachersThatAreNotLearned are told apart from a wrong guess by long words alone, so that the guess stands.
func TestTeachersThatAreNotLearned(t *testing.T) {
	nothing := plain(1, []int64{0}, 0)
	wantLearned(t, "13 letters modulo 14", cycle(14, 13), nothing, 1)
	wantLearned(t, "63 letters modulo 64", cycle(64, 63), nothing, 1)
	wantLearned(t, "all but 13 letters modulo 14", cycle(14, 0, 1, 2, 3, 4, 5, 6, 7, 8, 9, 10, 11, 12), plain(1, []int64{0}, 1), 1)
}

func TestLearnPlainWithManyStates(t *testing.T) {
	// A state tells the last 6 letters, and is an end if the first one of these is 1.
	p := impl.Plain{States: 64, Letters: 2, Ends: make([]bool, 64)}
	for state := range int64(64) {
		p.Next = append(p.Next, 2*state%64, (2*state+1)%64)
		p.Ends[state] = state >= 32
	}
	got, guesses, ok := impl.LearnPlain(p)
	want(t, "LearnPlain of 64 states succeeds", ok, true)
	want(t, "LearnPlain of 64 states", got.States, 64)
	expected, count := knownLearning(p)
	wantSame(t, "LearnPlain of 64 states", got, expected)
	want(t, "guesses for 64 states", guesses, count)
}

func TestLearnPlainOfOthersFails(t *testing.T) {
	for what, p := range invalidPlains() {
		got, guesses, ok := impl.LearnPlain(p)
		wantNoPlain(t, "LearnPlain of "+what, got, ok)
		want(t, "guesses for "+what, guesses, 0)
	}
}
