package tests

import (
	"fmt"
	"math"
	"math/rand"
	"slices"
	"strings"
	"testing"

	"loop.example/g01357/impl"
)

// model returns a model of as many states as starts.
func model(letters int64, starts, steps, shows []float32) impl.Model {
	return impl.Model{States: int64(len(starts)), Letters: letters, Starts: starts, Steps: steps, Shows: shows}
}

// uneven is a model whose results were computed by another program, with each operation rounded to 32 bits.
func uneven() impl.Model {
	return model(3, []float32{.2, .3, .5}, []float32{.1, .6, .3, .25, .05, .7, .45, .15, .4}, []float32{.7, .1, .2, .05, .35, .6, .33, .56, .11})
}

// second is a model of as many letters as uneven, of which the same holds.
func second() impl.Model {
	return model(3, []float32{.9, .1}, []float32{.63, .37, .21, .79}, []float32{.15, .55, .3, .41, .17, .42})
}

// evenModel returns a model of equal chances.
func evenModel(states, letters int64) impl.Model {
	m, _ := impl.EvenModel(states, letters)
	return m
}

// sureRing returns a ring of as many states as letters that always goes on, and shows its letters for sure.
func sureRing(size int64) impl.Model {
	m, _ := impl.RingModel(size, size, 0, 1)
	return m
}

// coins returns a model of one state and two letters with some chances.
func coins(first, other float32) impl.Model {
	return model(2, []float32{1}, []float32{1}, []float32{first, other})
}

// seldom is a model of one state that shows the letter 0 so seldom that 12 of them have a chance that is rounded to 0.
func seldom() impl.Model { return coins(0.0001, 0.9999) }

// faint is a model which starts in the states 0 and 1 with the least chances, and stays in its states: only the last
// one shows the letter 1.
func faint() impl.Model {
	least := number(leastSub)
	return model(2, []float32{least, least, 1}, []float32{1, 0, 0, 0, 1, 0, 0, 0, 1}, []float32{1, 0, 1, 0, 0, 1})
}

// randomRow returns chances: equal ones and zeros, or others of which some or none are 0.
func randomRow(r *rand.Rand, size int64) []float32 {
	row, sum := make([]float32, size), float32(0)
	kind := r.Intn(4)
	for sum == 0 {
		for i := range row {
			switch kind {
			case 0:
				row[i] = float32(r.Intn(2))
			case 1:
				row[i] = max(r.Float32()-0.3, 0)
			default:
				row[i] = r.Float32()
			}
			sum += row[i]
		}
	}
	for i := range row {
		row[i] /= sum
	}
	return row
}

// randomModel returns a model of 1 to 5 states.
func randomModel(r *rand.Rand, letters int64) impl.Model {
	m := impl.Model{States: 1 + r.Int63n(5), Letters: letters}
	m.Starts = randomRow(r, m.States)
	for range m.States {
		m.Steps = append(m.Steps, randomRow(r, m.States)...)
		m.Shows = append(m.Shows, randomRow(r, letters)...)
	}
	return m
}

// randomWord returns a word of at most most letters.
func randomWord(r *rand.Rand, letters int64, most int) []int64 {
	word := make([]int64, r.Intn(most+1))
	for i := range word {
		word[i] = r.Int63n(letters)
	}
	return word
}

// randomWords returns 1 to 5 words of at most most letters.
func randomWords(r *rand.Rand, letters int64, most int) [][]int64 {
	words := make([][]int64, 1+r.Intn(5))
	for i := range words {
		words[i] = randomWord(r, letters, most)
	}
	return words
}

// eachModel calls check with many random models.
func eachModel(check func(r *rand.Rand, m impl.Model)) {
	r := rand.New(rand.NewSource(3))
	for range 300 {
		check(r, randomModel(r, 1+r.Int63n(4)))
	}
}

// hiddenWays returns all lists of so many states of m.
func hiddenWays(m impl.Model, long int) [][]int64 {
	all := wordsUpTo(m.States, long)
	return slices.DeleteFunc(all, func(way []int64) bool { return len(way) < long })
}

// wayChance returns the chance of a word with states, as a 64-bit number.
func wayChance(m impl.Model, word, hidden []int64) float64 {
	chance := float64(m.Starts[hidden[0]])
	for at, letter := range word {
		chance *= float64(m.Shows[hidden[at]*m.Letters+letter]) * float64(m.Steps[hidden[at]*m.States+hidden[at+1]])
	}
	return chance
}

// knownChance returns the chance of a word, the sum of those of all ways, as a 64-bit number.
func knownChance(m impl.Model, word []int64) float64 {
	sum := 0.0
	for _, way := range hiddenWays(m, len(word)+1) {
		sum += wayChance(m, word, way)
	}
	return sum
}

// isNear reports whether a number is nearly another one.
func isNear(x float32, expected float64) bool { return math.Abs(float64(x)-expected) <= 0.00001 }

func wantNear(t *testing.T, what string, got float32, ok bool, expected float64) {
	t.Helper()
	if !ok || !isNear(got, expected) {
		t.Errorf("%s: got %v, %v, want nearly %v", what, got, ok, expected)
	}
}

// bitsText returns the bits of numbers, with a blank between them.
func bitsText(list []float32) string {
	texts := []string{}
	for _, x := range list {
		texts = append(texts, fmt.Sprintf("%08x", bitsOf(x)))
	}
	return strings.Join(texts, " ")
}

// wantBits checks numbers to the last bit.
func wantBits(t *testing.T, what string, got []float32, ok bool, expected string) {
	t.Helper()
	if !ok || bitsText(got) != expected {
		t.Errorf("%s: got %s, %v, want %s", what, bitsText(got), ok, expected)
	}
}

// wantNumbers checks that numbers are the same as others.
func wantNumbers(t *testing.T, what string, got []float32, ok bool, expected ...float32) {
	t.Helper()
	wantBits(t, what, got, ok, bitsText(expected))
}

// wantOne checks that a number is the same as another one.
func wantOne(t *testing.T, what string, got float32, ok bool, expected float32) {
	t.Helper()
	wantNumbers(t, what, []float32{got}, ok, expected)
}

// modelText tells a model to the last bit.
func modelText(m impl.Model) string {
	return fmt.Sprint(m.States, m.Letters, " | ", bitsText(m.Starts), " | ", bitsText(m.Steps), " | ", bitsText(m.Shows))
}

func wantModel(t *testing.T, what string, got impl.Model, ok bool, expected impl.Model) {
	t.Helper()
	if !ok || modelText(got) != modelText(expected) || !impl.ValidModel(got) {
		t.Errorf("%s: got %s, %v, want %s", what, modelText(got), ok, modelText(expected))
	}
}

// wantModelBits checks a model to the last bit: States and Letters, and the bits of all numbers.
func wantModelBits(t *testing.T, what string, got impl.Model, ok bool, expected string) {
	t.Helper()
	if !ok || modelText(got) != expected || !impl.ValidModel(got) {
		t.Errorf("%s: got %s, %v, want %s", what, modelText(got), ok, expected)
	}
}

func wantNoModel(t *testing.T, what string, got impl.Model, ok bool) {
	t.Helper()
	if ok || got.States != 0 || got.Letters != 0 || len(got.Starts)+len(got.Steps)+len(got.Shows) != 0 {
		t.Errorf("%s: got %v, %v, want a failure", what, got, ok)
	}
}

// invalidModels are models which the document does not allow.
func invalidModels() map[string]impl.Model {
	change := func(by func(m *impl.Model)) impl.Model {
		m := uneven()
		by(&m)
		return m
	}
	above := math.Nextafter32(1, 2)
	return map[string]impl.Model{
		"nothing":             {},
		"6 states":            {States: 6, Letters: 1, Starts: slices.Repeat([]float32{1. / 6}, 6), Steps: slices.Repeat([]float32{1. / 6}, 36), Shows: slices.Repeat([]float32{1}, 6)},
		"5 letters":           {States: 1, Letters: 5, Starts: []float32{1}, Steps: []float32{1}, Shows: slices.Repeat([]float32{.2}, 5)},
		"no states":           {States: 0, Letters: 1},
		"no letters":          {States: 1, Letters: 0, Starts: []float32{1}, Steps: []float32{1}},
		"many states":         {States: math.MaxInt64, Letters: math.MaxInt64},
		"fewest states":       {States: math.MinInt64, Letters: math.MinInt64},
		"a start less":        change(func(m *impl.Model) { m.Starts = []float32{.5, .5} }),
		"a start more":        change(func(m *impl.Model) { m.Starts = append(m.Starts, 0) }),
		"a step less":         change(func(m *impl.Model) { m.Steps = m.Steps[:8] }),
		"a step more":         change(func(m *impl.Model) { m.Steps = append(m.Steps, 0) }),
		"a show less":         change(func(m *impl.Model) { m.Shows = m.Shows[:8] }),
		"a show more":         change(func(m *impl.Model) { m.Shows = append(m.Shows, 0) }),
		"no lists":            {States: 3, Letters: 3},
		"a start above 1":     model(1, []float32{above, 0}, []float32{1, 0, 1, 0}, []float32{1, 1}),
		"a step above 1":      model(1, []float32{1, 0}, []float32{1, 0, 0, above}, []float32{1, 1}),
		"a show above 1":      model(1, []float32{1, 0}, []float32{1, 0, 1, 0}, []float32{1, above}),
		"a start below 0":     model(1, []float32{1, number(0x80000001)}, []float32{1, 0, 1, 0}, []float32{1, 1}),
		"a step below 0":      model(1, []float32{1, 0}, []float32{1, 0, 1, number(0x80000001)}, []float32{1, 1}),
		"a show below 0":      coins(1, number(0x80000001)),
		"no number at starts": change(func(m *impl.Model) { m.Starts[1] = number(notNumber) }),
		"no number at steps":  change(func(m *impl.Model) { m.Steps[8] = number(0xff800001) }),
		"no number at shows":  change(func(m *impl.Model) { m.Shows[8] = number(notNumber) }),
		"an endless start":    change(func(m *impl.Model) { m.Starts[0] = number(plusInfinity) }),
		"an endless step":     change(func(m *impl.Model) { m.Steps[0] = number(minusInf) }),
		"an endless show":     change(func(m *impl.Model) { m.Shows[0] = number(plusInfinity) }),
		"rows of nothing":     model(1, []float32{0}, []float32{0}, []float32{0}),
		"a row of nothing":    model(2, []float32{1, 0}, []float32{1, 0, 0, 0}, []float32{1, 0, 1, 0}),
	}
}
