package tests

import (
	"fmt"
	"maps"
	"math/rand"
	"reflect"
	"runtime"
	"slices"
	"testing"

	"loop.example/g01357/impl"
)

// flows are what the functions of chapter 3 take.
type flows struct {
	a, b                impl.Model
	word, states        []int64
	words, hidden       [][]int64
	n, long             int64
	x                   float32
	steps, starts, ends []float32
}

// roomyAll returns equal lists with unused capacity, each in memory of its own.
func roomyAll(lists [][]int64) [][]int64 {
	all := roomy(lists, nil)
	for i, list := range lists {
		all[i] = roomy(list, mark)
	}
	return all
}

// copied returns equal arguments in memory of their own, with or without unused capacity.
func (f flows) copied(room bool) flows {
	floats, integers := slices.Clone[[]float32], slices.Clone[[]int64]
	lists := func(all [][]int64) [][]int64 {
		all = slices.Clone(all)
		for i, list := range all {
			all[i] = slices.Clone(list)
		}
		return all
	}
	if room {
		floats = func(list []float32) []float32 { return roomy(list, mark) }
		integers = func(list []int64) []int64 { return roomy(list, mark) }
		lists = roomyAll
	}
	for _, m := range []*impl.Model{&f.a, &f.b} {
		m.Starts, m.Steps, m.Shows = floats(m.Starts), floats(m.Steps), floats(m.Shows)
	}
	f.word, f.states, f.words, f.hidden = integers(f.word), integers(f.states), lists(f.words), lists(f.hidden)
	f.steps, f.starts, f.ends = floats(f.steps), floats(f.starts), floats(f.ends)
	return f
}

// memory tells all lists of the arguments with their unused capacity.
func (f flows) memory() string {
	all := []any{f.n, f.long, f.x, f.word[:cap(f.word)], f.states[:cap(f.states)], f.words[:cap(f.words)], f.hidden[:cap(f.hidden)]}
	for _, list := range slices.Concat(f.words, f.hidden) {
		all = append(all, list[:cap(list)])
	}
	for _, m := range []impl.Model{f.a, f.b} {
		all = append(all, m.States, m.Letters, bitsText(m.Starts[:cap(m.Starts)]), bitsText(m.Steps[:cap(m.Steps)]), bitsText(m.Shows[:cap(m.Shows)]))
	}
	return fmt.Sprint(append(all, bitsText(f.steps[:cap(f.steps)]), bitsText(f.starts[:cap(f.starts)]), bitsText(f.ends[:cap(f.ends)]))...)
}

// results returns the results of all functions of chapter 3, a list for each call.
func (f flows) results() [][]any {
	return [][]any{
		gather(impl.ValidModel(f.a)), gather(impl.SameModel(f.a, f.b)), gather(impl.EvenModel(f.n, f.long)), gather(impl.RingModel(f.n, f.long, f.x, f.x)),
		gather(impl.ForwardOf(f.a, f.word)), gather(impl.BackwardOf(f.a, f.word)), gather(impl.ChanceOf(f.a, f.word)), gather(impl.LogChanceOf(f.a, f.word)),
		gather(impl.HiddenAt(f.a, f.word, f.n)), gather(impl.PairAt(f.a, f.word, f.n)), gather(impl.BestHidden(f.a, f.word)), gather(impl.HiddenChance(f.a, f.word, f.states)), gather(impl.NextLetters(f.a, f.word)),
		gather(impl.LearnOnce(f.a, f.words)), gather(impl.LearnRounds(f.a, f.words, 0)), gather(impl.LearnRounds(f.a, f.words, f.n)), gather(impl.LikeOf(f.a, f.words)), gather(impl.LikesShared(f.a, f.words, f.n)), gather(impl.FitLetters(f.a, f.words, f.hidden)),
		gather(impl.RestOfModel(f.a, f.x, 20*f.n)), gather(impl.DrawnWord(f.a, 1000*f.n, f.long)),
		gather(impl.MeetChance(f.a, f.b, f.long)), gather(impl.ApartModels(f.a, f.b, f.long)), gather(impl.MoreBits(f.a, f.b, f.long)), gather(impl.MeetChance(f.a, f.a, f.long)),
		gather(impl.JoinStates(f.a, 0, f.n)), gather(impl.JoinStates(f.a, 1, 2)), gather(impl.AllWords(f.steps, f.starts, f.ends)), gather(impl.AllWords(f.a.Steps, f.a.Starts, f.a.Starts)),
	}
}

// hiddenOf returns random states for a word, now and then too few or too many.
func hiddenOf(r *rand.Rand, m impl.Model, word []int64) []int64 {
	states := make([]int64, max(0, len(word)+1+(r.Intn(8)+1)/8-r.Intn(8)/7))
	for i := range states {
		states[i] = r.Int63n(max(1, m.States))
	}
	return states
}

// manyFlows returns arguments of all kinds, valid and invalid ones.
func manyFlows() []flows {
	r := rand.New(rand.NewSource(21))
	models := []impl.Model{uneven(), second(), seldom(), faint(), sureRing(3), evenModel(5, 4)}
	invalid := invalidModels()
	for _, what := range slices.Sorted(maps.Keys(invalid)) {
		models = append(models, invalid[what])
	}
	for range 100 {
		models = append(models, randomModel(r, 1+r.Int63n(4)))
	}
	others := append(numbers(edges()...), .5, .001, .75)
	all := []flows{}
	for range 1000 {
		m := models[r.Intn(len(models))]
		f := flows{a: m, b: models[r.Intn(len(models))], n: r.Int63n(8) - 1, long: r.Int63n(8) - 1, x: others[r.Intn(len(others))]}
		if kind := r.Intn(8); kind == 0 {
			f.b = m
		} else if kind < 5 && m.Letters >= 1 && m.Letters <= 4 {
			f.b = randomModel(r, m.Letters)
		}
		letters := min(max(m.Letters, 1), 4) + int64(r.Intn(12)/11)
		f.word, f.words = randomWord(r, letters, 13), randomWords(r, min(max(m.Letters, 1), 4), 6)
		f.states = hiddenOf(r, m, f.word)
		for _, word := range f.words {
			f.hidden = append(f.hidden, hiddenOf(r, m, word))
		}
		size := r.Intn(7)
		f.steps, f.starts, f.ends = signed(r, size*size, 1), signed(r, size, 1), signed(r, size, 1)
		all = append(all, f)
	}
	return all
}

func TestFunctionsOfChapter3ArePure(t *testing.T) {
	succeeded := make([]int, len(flows{}.results()))
	for _, f := range manyFlows() {
		bare, room := f.copied(false), f.copied(true)
		before, results := room.memory(), room.results()
		first, second := fmt.Sprint(bare.results()), fmt.Sprint(results)
		if first != second || first != fmt.Sprint(room.results()) {
			t.Fatalf("equal arguments, other results: %s, %s", first, second)
		}
		if room.memory() != before {
			t.Fatalf("arguments were %s, became %s", before, room.memory())
		}
		for i, result := range results {
			if result[len(result)-1] == true {
				succeeded[i]++
			}
		}
	}
	for i, count := range succeeded {
		if count < 10 {
			t.Errorf("call %d succeeded just %d times", i, count)
		}
	}
}

func TestResultsOfChapter3ShareNoMemory(t *testing.T) {
	for _, f := range manyFlows() {
		f = f.copied(true)
		// Kept together, the arguments and all results of two calls each must stand apart.
		all := []any{f.a, f.b, f.word, f.states, f.words, f.hidden, f.steps, f.starts, f.ends, f.results(), f.results()}
		if !apart(regionsOf(reflect.ValueOf(all))) {
			t.Fatalf("results share memory for %s", f.memory())
		}
		runtime.KeepAlive(all)
	}
}
