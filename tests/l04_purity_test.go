package tests

import (
	"fmt"
	"maps"
	"math/rand"
	"reflect"
	"runtime"
	"slices"
	"testing"

	"loop.example/g01357/impl"
)

// writings are what the functions of chapter 4 take.
type writings struct {
	teacher          impl.Plain
	good, bad        [][]int64
	a, b, steps      string
	words, roman     string
	list, ends, into []string
	weights          [4]int64
	n                int64
}

// copied returns equal arguments in memory of their own, with or without unused capacity.
func (w writings) copied(room bool) writings {
	integers, ends, texts, words := slices.Clone[[]int64], slices.Clone[[]bool], slices.Clone[[]string], slices.Clone[[][]int64]
	if room {
		integers = func(list []int64) []int64 { return roomy(list, mark) }
		ends = func(list []bool) []bool { return roomy(list, true) }
		texts = func(list []string) []string { return roomy(list, "mark") }
		words = roomyAll
	}
	w.teacher.Next, w.teacher.Ends = integers(w.teacher.Next), ends(w.teacher.Ends)
	w.good, w.bad = words(w.good), words(w.bad)
	w.list, w.ends, w.into = texts(w.list), texts(w.ends), texts(w.into)
	return w
}

// memory tells all lists of the arguments with their unused capacity.
func (w writings) memory() string {
	all := []any{w.a, w.b, w.steps, w.words, w.roman, w.weights, w.n, w.teacher.States, w.teacher.Letters, w.teacher.Next[:cap(w.teacher.Next)], w.teacher.Ends[:cap(w.teacher.Ends)]}
	for _, words := range [][][]int64{w.good, w.bad} {
		all = append(all, words[:cap(words)])
		for _, word := range words {
			all = append(all, word[:cap(word)])
		}
	}
	for _, texts := range [][]string{w.list, w.ends, w.into} {
		all = append(all, texts[:cap(texts)])
	}
	return fmt.Sprintf("%q", all)
}

// results returns the results of all functions of chapter 4, a list for each call.
func (w writings) results() [][]any {
	c := w.weights
	return [][]any{
		gather(impl.LeastFit(w.n, w.good, w.bad)), gather(impl.LearnPlain(w.teacher)), gather(impl.IsText(w.a)),
		gather(impl.EditCost(w.a, w.b, c[0], c[1], c[2])), gather(impl.EditSteps(w.a, w.b)), gather(impl.ApplySteps(w.a, w.b, w.steps)), gather(impl.SwapCost(w.a, w.b)),
		gather(impl.AlignGain(w.a, w.b, c[0], c[1], c[2], c[3])), gather(impl.LocalGain(w.a, w.b, c[0], c[1], c[2])), gather(impl.CommonText(w.a, w.b)), gather(impl.SharedText(w.a, w.b)),
		gather(impl.NearTexts(w.list, w.a, w.n)), gather(impl.NearShared(w.list, w.a, w.n)),
		gather(impl.SoundKey(w.a)), gather(impl.NumberWords(1000 * w.n)), gather(impl.ReadWords(w.words)), gather(impl.RomanOf(w.n)), gather(impl.ReadRoman(w.roman)),
		gather(impl.HyphensOf(w.a, w.ends)), gather(impl.HyphensOf(w.a, w.into)), gather(impl.StemOf(w.a, w.ends, w.into, w.n)), gather(impl.PackText(w.a)), gather(impl.UnpackText(w.a)), gather(impl.CommonStart(w.list)),
	}
}

// manyWritings returns arguments of all kinds, valid and invalid ones.
func manyWritings() []writings {
	r := rand.New(rand.NewSource(50))
	teachers, invalid := []impl.Plain{even(), cycle(64), cycle(14, 13)}, invalidPlains()
	for _, what := range slices.Sorted(maps.Keys(invalid)) {
		teachers = append(teachers, invalid[what])
	}
	all := []writings{}
	for range 1000 {
		w := writings{teacher: randomPlain(r, 1+r.Int63n(4)), n: r.Int63n(10) - 1}
		if r.Intn(4) == 0 {
			w.teacher = teachers[r.Intn(len(teachers))]
		}
		w.good, w.bad = randomWords(r, 1+r.Int63n(2), 4), randomWords(r, 1+r.Int63n(2), 4)
		text := func() string { return randomText(r, []string{"ab", "abc", "a\xff"}[r.Intn(3)], 8) }
		w.a, w.b = text(), text()
		w.steps, _ = impl.EditSteps(w.a, w.b)
		if r.Intn(10) == 0 {
			w.a, w.steps = tooLong(), randomText(r, "=!-+", 4)
		}
		w.words, w.roman = []string{"one hundred", "one", "ten one", "no"}[r.Intn(4)], randomText(r, "XIV", 3)
		for range r.Intn(6) {
			w.list, w.ends = append(w.list, text()), append(w.ends, randomText(r, "ab", 2))
			w.into = append(w.into, []string{"a1b", "1", ".a1", "a", "b3a"}[r.Intn(5)])
		}
		for i := range w.weights {
			w.weights[i] = someWeight(r) - r.Int63n(9)/8
		}
		all = append(all, w)
	}
	return all
}

func TestFunctionsOfChapter4ArePure(t *testing.T) {
	succeeded := make([]int, len(writings{}.results()))
	for _, w := range manyWritings() {
		bare, room := w.copied(false), w.copied(true)
		before, results := room.memory(), room.results()
		first, second := fmt.Sprint(bare.results()), fmt.Sprint(results)
		if first != second || first != fmt.Sprint(room.results()) {
			t.Fatalf("equal arguments, other results: %s, %s", first, second)
		}
		if room.memory() != before {
			t.Fatalf("arguments were %s, became %s", before, room.memory())
		}
		for i, result := range results {
			if result[len(result)-1] == true {
				succeeded[i]++
			}
		}
	}
	for i, count := range succeeded {
		if count < 10 {
			t.Errorf("call %d succeeded just %d times", i, count)
		}
	}
}

func TestResultsOfChapter4ShareNoMemory(t *testing.T) {
	for _, w := range manyWritings() {
		w = w.copied(true)
		// Kept together, the arguments and all results of two calls each must stand apart.
		all := []any{w.teacher, w.good, w.bad, w.list, w.ends, w.into, w.results(), w.results()}
		if !apart(regionsOf(reflect.ValueOf(all))) {
			t.Fatalf("results share memory for %s", w.memory())
		}
		runtime.KeepAlive(all)
	}
}
