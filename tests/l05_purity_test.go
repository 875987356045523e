package tests

import (
	"fmt"
	"maps"
	"math/rand"
	"reflect"
	"runtime"
	"slices"
	"testing"

	"loop.example/g01357/impl"
)

// rewritings are what the functions of chapter 5 take.
type rewritings struct {
	list, table   []impl.Change
	word, in, out []int64
	words         [][]int64
	features      []int64
	a, b          impl.Sided
	letters, n    int64
}

// roomyChanges returns equal changes with unused capacity, each list in memory of its own.
func roomyChanges(list []impl.Change) []impl.Change {
	all := roomy(list, impl.Change{})
	for i := range all[:cap(all)] {
		c := &all[:cap(all)][i]
		if i >= len(list) {
			c.Find = []int64{mark}
		}
		c.Left, c.Find, c.Give, c.Right = roomy(c.Left, mark), roomy(c.Find, mark), roomy(c.Give, mark), roomy(c.Right, mark)
	}
	return all
}

// copied returns equal arguments in memory of their own, with or without unused capacity.
func (w rewritings) copied(room bool) rewritings {
	integers, changes, words := slices.Clone[[]int64], slices.Clone[[]impl.Change], slices.Clone[[][]int64]
	arcs, ends := slices.Clone[[]impl.PairArc], slices.Clone[[]bool]
	if room {
		integers, changes, words = func(list []int64) []int64 { return roomy(list, mark) }, roomyChanges, roomyAll
		arcs = func(list []impl.PairArc) []impl.PairArc { return roomy(list, impl.PairArc{From: mark}) }
		ends = func(list []bool) []bool { return roomy(list, true) }
	}
	w.list, w.table, w.words = changes(w.list), changes(w.table), words(w.words)
	w.word, w.in, w.out, w.features = integers(w.word), integers(w.in), integers(w.out), integers(w.features)
	for _, s := range []*impl.Sided{&w.a, &w.b} {
		s.Arcs, s.Ends = arcs(s.Arcs), ends(s.Ends)
	}
	return w
}

// memory tells all lists of the arguments with their unused capacity.
func (w rewritings) memory() string {
	all := []any{w.letters, w.n, w.words[:cap(w.words)]}
	for _, list := range append(w.words[:len(w.words):len(w.words)], w.word, w.in, w.out, w.features) {
		all = append(all, list[:cap(list)])
	}
	for _, list := range [][]impl.Change{w.list, w.table} {
		all = append(all, len(list))
		for _, c := range list[:cap(list)] {
			all = append(all, c.Left[:cap(c.Left)], c.Find[:cap(c.Find)], c.Give[:cap(c.Give)], c.Right[:cap(c.Right)])
		}
	}
	for _, s := range []impl.Sided{w.a, w.b} {
		all = append(all, s.States, s.Letters, s.Arcs[:cap(s.Arcs)], s.Ends[:cap(s.Ends)])
	}
	return fmt.Sprint(all...)
}

// results returns the results of all functions of chapter 5, a list for each call.
func (w rewritings) results() [][]any {
	c, d := w.list[0], w.list[len(w.list)-1]
	return [][]any{
		gather(impl.IsLongWord(w.word, w.letters)), gather(impl.ValidChange(c, w.letters)), gather(impl.SameChange(c, d)),
		gather(impl.PlacesOf(c, w.word, w.letters)), gather(impl.ChangeFirst(c, w.word, w.letters)), gather(impl.ChangeAll(c, w.word, w.letters)), gather(impl.ChangeEnd(c, w.word, w.letters, 10*w.n)),
		gather(impl.RunChanges(w.list, w.word, w.letters)), gather(impl.RunChanges(nil, w.word, w.letters)), gather(impl.SourcesOf(w.list, w.word, w.letters, w.n-1)), gather(impl.OrderWord(c, d, w.letters, w.n-1)), gather(impl.ChangesShared(w.list, w.words, w.letters, w.n)), gather(impl.ChangesShared(nil, w.words, w.letters, w.n)),
		gather(impl.OverlapsOf(w.table, w.letters)), gather(impl.NormalOf(w.table, w.word, w.letters, 20*w.n)), gather(impl.NormalOf(nil, w.word, w.letters, w.n)), gather(impl.LoosePairs(w.table, w.letters, 20*w.n)),
		gather(impl.Transliterate(w.table, w.word, w.letters)), gather(impl.Transliterate(nil, w.word, w.letters)), gather(impl.BackLiterate(w.table, w.in, w.letters)),
		gather(impl.WithFeatures(w.features, w.n, 2*w.n)), gather(impl.ShiftFeatures(w.features, w.word, w.n, 1, 2)), gather(impl.ShiftFeatures(w.features, w.word, 255, 0, 0)),
		gather(impl.ValidSided(w.a)), gather(impl.SameSided(w.a, w.a)), gather(impl.ReadsPair(w.a, w.in, w.out)), gather(impl.OutputsOf(w.a, w.in, w.n-1)),
		gather(impl.TurnSided(w.a)), gather(impl.ChainSided(w.a, w.b)), gather(impl.ChainSided(w.a, w.a)), gather(impl.EitherSided(w.a, w.b)), gather(impl.EitherSided(w.b, w.b)),
	}
}

// manyRewritings returns arguments of all kinds, valid and invalid ones.
func manyRewritings() []rewritings {
	r := rand.New(rand.NewSource(69))
	machines, unlike := []impl.Sided{beside(), rounds(), sidedArcs(48), sidedStates(8)}, invalidSided()
	for _, what := range slices.Sorted(maps.Keys(unlike)) {
		machines = append(machines, unlike[what])
	}
	strange, bad := []impl.Change{}, invalidChanges()
	for _, what := range slices.Sorted(maps.Keys(bad)) {
		strange = append(strange, bad[what])
	}
	all := []rewritings{}
	for range 600 {
		letters := 1 + r.Int63n(4)
		w := rewritings{letters: letters, n: r.Int63n(10) - 1, word: randomWord(r, letters, 26), in: randomWord(r, letters, 4), out: randomWord(r, letters, 4)}
		w.list, w.table = append(randomRules(r, letters, 4, false), randomRule(r, letters, false)), randomRules(r, letters, 4, true)
		if r.Intn(10) == 0 {
			w.list, w.table = append(w.list, strange[r.Intn(len(strange))]), append(w.table, strange[r.Intn(len(strange))])
		}
		for range r.Intn(6) {
			w.words = append(w.words, randomWord(r, letters, 20))
		}
		for _, own := range r.Perm(16)[:letters] {
			w.features = append(w.features, int64(own))
		}
		w.a, w.b = randomSided(r, letters, 3), randomSided(r, letters, 3)
		if r.Intn(6) == 0 {
			w.a = machines[r.Intn(len(machines))]
		}
		all = append(all, w)
	}
	return all
}

func TestFunctionsOfChapter5ArePure(t *testing.T) {
	succeeded := make([]int, len(rewritings{list: rules("0>1")}.results()))
	for _, w := range manyRewritings() {
		bare, room := w.copied(false), w.copied(true)
		before, results := room.memory(), room.results()
		first, second := fmt.Sprint(bare.results()), fmt.Sprint(results)
		if first != second || first != fmt.Sprint(room.results()) {
			t.Fatalf("equal arguments, other results: %s, %s", first, second)
		}
		if room.memory() != before {
			t.Fatalf("arguments were %s, became %s", before, room.memory())
		}
		for i, result := range results {
			if result[len(result)-1] == true {
				succeeded[i]++
			}
		}
	}
	for i, count := range succeeded {
		if count < 10 {
			t.Errorf("call %d succeeded just %d times", i, count)
		}
	}
}

func TestResultsOfChapter5ShareNoMemory(t *testing.T) {
	for _, w := range manyRewritings() {
		w = w.copied(true)
		// Kept together, the arguments and all results of two calls each must stand apart.
		all := []any{w.list, w.table, w.word, w.in, w.out, w.words, w.features, w.a, w.b, w.results(), w.results()}
		if !apart(regionsOf(reflect.ValueOf(all))) {
			t.Fatalf("results share memory for %s", w.memory())
		}
		runtime.KeepAlive(all)
	}
}
