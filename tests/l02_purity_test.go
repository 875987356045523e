package tests

import (
	"fmt"
	"math/rand"
	"reflect"
	"runtime"
	"slices"
	"testing"

	"loop.example/g01357/impl"
)

// mark is what fills the unused capacity of lists that are passed in.
const mark = 77

// roomy returns an equal list with unused capacity, which is filled with some value.
func roomy[T any](list []T, filler T) []T {
	full := append(slices.Clone(list), slices.Repeat([]T{filler}, spare)...)
	return full[:len(list)]
}

// weights are what the functions of chapter 2 take.
type weights struct {
	a, b  impl.Machine
	p, q  impl.Plain
	word  []int64
	words [][]int64
	n     int64
}

// copied returns equal arguments in memory of their own, with or without unused capacity.
func (w weights) copied(room bool) weights {
	integers, arcs := slices.Clone[[]int64], slices.Clone[[]impl.Arc]
	ends, words := slices.Clone[[]bool], slices.Clone[[][]int64]
	if room {
		integers = func(list []int64) []int64 { return roomy(list, mark) }
		arcs = func(list []impl.Arc) []impl.Arc { return roomy(list, impl.Arc{From: mark}) }
		ends = func(list []bool) []bool { return roomy(list, true) }
		words = func(list [][]int64) [][]int64 { return roomy(list, []int64{mark}) }
	}
	for _, m := range []*impl.Machine{&w.a, &w.b} {
		m.Arcs, m.Starts, m.Ends = arcs(m.Arcs), integers(m.Starts), integers(m.Ends)
	}
	for _, p := range []*impl.Plain{&w.p, &w.q} {
		p.Next, p.Ends = integers(p.Next), ends(p.Ends)
	}
	w.word, w.words = integers(w.word), words(w.words)
	for i, word := range w.words {
		w.words[i] = integers(word)
	}
	return w
}

// memory tells all lists of the arguments with their unused capacity.
func (w weights) memory() string {
	all := []any{w.n, w.word[:cap(w.word)], w.words[:cap(w.words)]}
	for _, m := range []impl.Machine{w.a, w.b} {
		all = append(all, m.States, m.Letters, m.Arcs[:cap(m.Arcs)], m.Starts[:cap(m.Starts)], m.Ends[:cap(m.Ends)])
	}
	for _, p := range []impl.Plain{w.p, w.q} {
		all = append(all, p.States, p.Letters, p.Next[:cap(p.Next)], p.Ends[:cap(p.Ends)])
	}
	for _, word := range w.words {
		all = append(all, word[:cap(word)])
	}
	return fmt.Sprint(all...)
}

// gather returns all results of one call.
func gather(results ...any) []any { return results }

// results returns the results of all functions of chapter 2, a list for each call.
func (w weights) results() [][]any {
	return [][]any{
		gather(impl.ValidMachine(w.a)), gather(impl.SameMachine(w.a, w.b)), gather(impl.IsWord(w.word, w.n)), gather(impl.CostOf(w.a, w.word)),
		gather(impl.EitherOf(w.a, w.b)), gather(impl.JoinedOf(w.a, w.b)), gather(impl.RepeatOf(w.a)), gather(impl.BackOf(w.a)), gather(impl.MeetOf(w.a, w.b)),
		gather(impl.EitherOf(w.a, w.a)), gather(impl.JoinedOf(w.a, w.a)), gather(impl.MeetOf(w.b, w.b)),
		gather(impl.TidyOf(w.a)), gather(impl.TrimOf(w.a)), gather(impl.WithoutEmpty(w.a)), gather(impl.EndCosts(w.a)),
		gather(impl.BestWord(w.a)), gather(impl.BestWords(w.a, w.n, 2*w.n)),
		gather(impl.ValidPlain(w.p)), gather(impl.SamePlain(w.p, w.q)), gather(impl.PlainOf(w.a)), gather(impl.ReadsWord(w.p, w.word)),
		gather(impl.OtherPlain(w.p)), gather(impl.MeetPlain(w.p, w.q)), gather(impl.MeetPlain(w.p, w.p)), gather(impl.LeastPlain(w.p)),
		gather(impl.ApartWord(w.p, w.q)), gather(impl.FirstWord(w.p)), gather(impl.CountWords(w.p, w.n)), gather(impl.WordsShared(w.a, w.words, w.n)),
	}
}

// manyWeights returns arguments of all kinds, valid and invalid ones.
func manyWeights() []weights {
	r := rand.New(rand.NewSource(12))
	machines := []impl.Machine{{}, one(), chain(12), chain(15), manyArcs(3, 128), manyArcs(3, 129), lastButFive(), loose(8, 64), loose(16, 0), machine(1, []int64{-2}, []int64{1001})}
	plains := []impl.Plain{{}, even(), cycle(64, 63), cycle(65), cycle(13), plain(1, []int64{9}, 1)}
	for range 40 {
		machines = append(machines, randomMachine(r, 1+r.Int63n(4), r.Intn(2) == 0))
		plains = append(plains, randomPlain(r, 1+r.Int63n(4)))
	}
	words := append(wordsUpTo(4, 3), make([]int64, 12), make([]int64, 13), []int64{-1}, nil)
	all := []weights{}
	for range 1000 {
		w := weights{a: machines[r.Intn(len(machines))], b: machines[r.Intn(len(machines))], n: r.Int63n(10) - 1}
		w.p, w.q = plains[r.Intn(len(plains))], plains[r.Intn(len(plains))]
		w.word = words[r.Intn(len(words))]
		for range r.Intn(8) {
			w.words = append(w.words, words[r.Intn(6)])
		}
		all = append(all, w)
	}
	return all
}

func TestFunctionsOfChapter2ArePure(t *testing.T) {
	for _, w := range manyWeights() {
		bare, room := w.copied(false), w.copied(true)
		before := room.memory()
		first, second := fmt.Sprint(bare.results()), fmt.Sprint(room.results())
		if first != second || first != fmt.Sprint(room.results()) {
			t.Fatalf("equal arguments, other results: %s, %s", first, second)
		}
		if room.memory() != before {
			t.Fatalf("arguments were %s, became %s", before, room.memory())
		}
	}
}

// region is the memory of a list with its unused capacity.
type region struct {
	from, to uintptr
}

// regionsOf returns the memory of all lists in a value.
func regionsOf(v reflect.Value) []region {
	all := []region{}
	switch v.Kind() {
	case reflect.Interface:
		return regionsOf(v.Elem())
	case reflect.Struct:
		for i := range v.NumField() {
			all = append(all, regionsOf(v.Field(i))...)
		}
	case reflect.Slice:
		if size := v.Type().Elem().Size() * uintptr(v.Cap()); size > 0 {
			all = append(all, region{v.Pointer(), v.Pointer() + size})
		}
		full := v.Slice(0, v.Cap())
		for i := range full.Len() {
			all = append(all, regionsOf(full.Index(i))...)
		}
	}
	return all
}

// apart reports whether no two of some regions have a place in common.
func apart(all []region) bool {
	slices.SortFunc(all, func(a, b region) int { return int(int64(a.from) - int64(b.from)) })
	for i := range len(all) - 1 {
		if all[i].to > all[i+1].from {
			return false
		}
	}
	return true
}

func TestSharedMemoryIsFound(t *testing.T) {
	list := []int64{1, 2, 3}
	for _, c := range []struct {
		value any
		apart bool
	}{
		{[][]int64{list, {1, 2, 3}, nil, {}}, true}, {[][]int64{list, list}, false}, {[][]int64{list[:1], list[2:]}, false}, {[][]int64{list[:1:1], list[2:]}, true},
		{impl.Machine{Starts: list, Ends: list}, false}, {impl.Machine{Starts: list, Ends: slices.Clone(list)}, true}, {[]any{list, impl.Plain{Next: list}}, false},
	} {
		want(t, fmt.Sprint("apart ", c.value), apart(regionsOf(reflect.ValueOf(c.value))), c.apart)
	}
}

func TestResultsOfChapter2ShareNoMemory(t *testing.T) {
	for _, w := range manyWeights() {
		w = w.copied(true)
		// Kept together, the arguments and all results of two calls each must stand apart.
		first, second := w.results(), w.results()
		all := []any{w.a, w.b, w.p, w.q, w.word, w.words, first, second}
		// The filler of the unused capacity of words is one list in all of them.
		all[5] = slices.Clip(w.words)
		if !apart(regionsOf(reflect.ValueOf(all))) {
			t.Fatalf("results share memory for %s", w.memory())
		}
		runtime.KeepAlive(all)
	}
}
