package tests

import (
	"fmt"
	"maps"
	"math/rand"
	"reflect"
	"runtime"
	"slices"
	"testing"

	"loop.example/g01357/impl"
)

// forests are what the functions of chapter 6 take.
type forests struct {
	g, h       impl.Grammar
	p          impl.Plain
	a, b       impl.TreeMachine
	word, tree []int64
	words      [][]int64
	n          int64
}

// copied returns equal arguments in memory of their own, with or without unused capacity.
func (f forests) copied(room bool) forests {
	integers, rules, ends, words := slices.Clone[[]int64], slices.Clone[[]impl.Rule], slices.Clone[[]bool], slices.Clone[[][]int64]
	if room {
		integers, words = func(list []int64) []int64 { return roomy(list, mark) }, roomyAll
		rules = func(list []impl.Rule) []impl.Rule { return roomy(list, impl.Rule{Left: mark}) }
		ends = func(list []bool) []bool { return roomy(list, true) }
	}
	f.g.Rules, f.h.Rules = rules(f.g.Rules), rules(f.h.Rules)
	f.p.Next, f.p.Ends = integers(f.p.Next), ends(f.p.Ends)
	f.word, f.tree, f.words = integers(f.word), integers(f.tree), words(f.words)
	for _, m := range []*impl.TreeMachine{&f.a, &f.b} {
		m.Leaves, m.Next, m.Ends = integers(m.Leaves), integers(m.Next), ends(m.Ends)
	}
	return f
}

// memory tells all lists of the arguments with their unused capacity.
func (f forests) memory() string {
	all := []any{f.n, f.p.States, f.p.Letters, f.p.Ends[:cap(f.p.Ends)], f.words[:cap(f.words)]}
	for _, list := range append(f.words[:len(f.words):len(f.words)], f.word, f.tree, f.p.Next) {
		all = append(all, list[:cap(list)])
	}
	for _, g := range []impl.Grammar{f.g, f.h} {
		all = append(all, g.Names, g.Letters, g.Rules[:cap(g.Rules)])
	}
	for _, m := range []impl.TreeMachine{f.a, f.b} {
		all = append(all, m.States, m.Letters, m.Leaves[:cap(m.Leaves)], m.Next[:cap(m.Next)], m.Ends[:cap(m.Ends)])
	}
	return fmt.Sprint(all...)
}

// results returns the results of all functions of chapter 6, a list for each call.
func (f forests) results() [][]any {
	return [][]any{
		gather(impl.ValidGrammar(f.g)), gather(impl.SameGrammar(f.g, f.g)), gather(impl.ChartOf(f.g, f.word)), gather(impl.ParseCost(f.g, f.word)), gather(impl.ParseTree(f.g, f.word)), gather(impl.CountTrees(f.g, f.word)),
		gather(impl.LeastCosts(f.g)), gather(impl.CheapWord(f.g)), gather(impl.UsefulRules(f.g)), gather(impl.CountRead(f.g, f.n)),
		gather(impl.GrammarOf(f.p)), gather(impl.EitherGrammar(f.g, f.h)), gather(impl.EitherGrammar(f.h, f.h)), gather(impl.BackGrammar(f.g)), gather(impl.ParsesShared(f.g, f.words, f.n)), gather(impl.ParsesShared(f.g, nil, f.n)),
		gather(impl.IsTree(f.tree, f.n)), gather(impl.LeavesOfTree(f.tree)), gather(impl.DeepOfTree(f.tree)), gather(impl.MirrorTree(f.tree)),
		gather(impl.ValidTrees(f.a)), gather(impl.SameTrees(f.a, f.a)), gather(impl.StateOfTree(f.a, f.tree)), gather(impl.ReadsTree(f.a, f.tree)), gather(impl.OtherTrees(f.a)),
		gather(impl.MeetTrees(f.a, f.b)), gather(impl.MeetTrees(f.b, f.b)), gather(impl.LeastTrees(f.a)), gather(impl.CountTreesRead(f.a, f.n)), gather(impl.FirstTree(f.a)), gather(impl.WordHasTree(f.a, f.word)),
	}
}

// manyForests returns arguments of all kinds, valid and invalid ones.
func manyForests() []forests {
	r := rand.New(rand.NewSource(17))
	grammars := []impl.Grammar{twice(), doubled(4), doubled(8), manyRules(32), manyRules(8), tens(2, 1, "")}
	machines := []impl.TreeMachine{evenLeaves(), leafCounter(16, 12), fullTrees(16, 4), fullTrees(16, 3)}
	bad, strange, none := invalidGrammars(), invalidTrees(), invalidLists(4)
	badNames, strangeNames, noneNames := slices.Sorted(maps.Keys(bad)), slices.Sorted(maps.Keys(strange)), slices.Sorted(maps.Keys(none))
	all := []forests{}
	for range 600 {
		letters := 1 + r.Int63n(4)
		f := forests{n: r.Int63n(10) - 1, p: randomPlain(r, 1+r.Int63n(3)), word: randomWord(r, letters, 12), g: randomGrammar(r, letters, 4, 8), h: randomGrammar(r, letters, 3, 8)}
		f.a, f.b = randomTrees(r, letters, 5), randomTrees(r, letters, 4)
		trees := treesOver(append(randomWord(r, letters, 5), r.Int63n(letters)))
		f.tree = trees[r.Intn(len(trees))]
		for range r.Intn(6) {
			f.words = append(f.words, append(randomWord(r, letters, 4), 0))
		}
		switch r.Intn(8) {
		case 0:
			f.g, f.a = grammars[r.Intn(len(grammars))], machines[r.Intn(len(machines))]
		case 1:
			f.g, f.a = bad[badNames[r.Intn(len(bad))]], strange[strangeNames[r.Intn(len(strange))]]
		case 2:
			f.tree, f.words = none[noneNames[r.Intn(len(none))]], append(f.words, []int64{4})
		}
		all = append(all, f)
	}
	return all
}

func TestFunctionsOfChapter6ArePure(t *testing.T) {
	many := manyForests()
	succeeded := make([]int, len(many[0].results()))
	for _, f := range many {
		bare, room := f.copied(false), f.copied(true)
		before, results := room.memory(), room.results()
		first, second := fmt.Sprint(bare.results()), fmt.Sprint(results)
		if first != second || first != fmt.Sprint(room.results()) {
			t.Fatalf("equal arguments, other results: %s, %s", first, second)
		}
		if room.memory() != before {
			t.Fatalf("arguments were %s, became %s", before, room.memory())
		}
		for i, result := range results {
			if result[len(result)-1] == true {
				succeeded[i]++
			}
		}
	}
	for i, count := range succeeded {
		if count < 10 {
			t.Errorf("call %d succeeded just %d times", i, count)
		}
	}
}

func TestResultsOfChapter6ShareNoMemory(t *testing.T) {
	for _, f := range manyForests() {
		f = f.copied(true)
		// Kept together, the arguments and all results of two calls each must stand apart.
		all := []any{f.g, f.h, f.p, f.a, f.b, f.word, f.tree, f.words, f.results(), f.results()}
		if !apart(regionsOf(reflect.ValueOf(all))) {
			t.Fatalf("results share memory for %s", f.memory())
		}
		runtime.KeepAlive(all)
	}
}
