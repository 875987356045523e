package tests

import (
	"fmt"
	"math/rand"
	"slices"
	"strings"
	"testing"

	"loop.example/g01357/impl"
)

func validGrammars() map[string]impl.Grammar {
	return map[string]impl.Grammar{
		"the example": twice(), "no rules": grammar(1, 1, ""), "8 names, 4 letters": grammar(8, 4, "7>77 7>d 0>70 0>07"),
		"32 rules": manyRules(32), "rules that are there twice": grammar(1, 1, "0>00 0>00 0>a 0>a"),
		"more letters than names": grammar(1, 4, "0>d"), "more names than letters": grammar(8, 1, "0>77 7>a"),
		"costs 0 and 1000": grammar(1, 1, "0>00:0 0>00:1000 0>a:0 0>a:1000"), "names that are not made": grammar(3, 1, "0>12"),
	}
}

func TestValidGrammar(t *testing.T) {
	wantValid(t, "ValidGrammar", impl.ValidGrammar, validGrammars(), invalidGrammars())
}

func TestSameGrammar(t *testing.T) {
	wantSameAlone(t, "SameGrammar", impl.SameGrammar, twice(), invalidGrammars())
	of := func() impl.Grammar { return grammar(3, 2, "0>12:5 1>a:1") }
	example := of()
	want(t, "SameGrammar of equal grammars", impl.SameGrammar(example, of()), true)
	for i := range 6 {
		other := of()
		rule := &other.Rules[1]
		*[]*int64{&other.Names, &other.Letters, &rule.Left, &rule.First, &rule.Second, &rule.Cost}[i]++
		want(t, fmt.Sprint("SameGrammar of grammars with another part ", i), impl.SameGrammar(example, other), false)
	}
	for _, text := range []string{"1>a:1 0>12:5", "0>12:5", "0>12:5 1>a:1 1>a:1", "0>21:5 1>a:1", ""} {
		want(t, "SameGrammar with the rules "+text, impl.SameGrammar(example, grammar(3, 2, text)), false)
	}
	want(t, "SameGrammar of nil lists and empty ones", impl.SameGrammar(impl.Grammar{}, impl.Grammar{Rules: []impl.Rule{}}), true)
}

func TestExamplesOfGrammars(t *testing.T) {
	count, ok := impl.CountTrees(twice(), spelled("00"))
	wantCount(t, "CountTrees of 0, 0", count, ok, 1)
	count, ok = impl.CountTrees(twice(), spelled("000"))
	wantCount(t, "CountTrees of 0, 0, 0", count, ok, 2)
}

func TestChartOf(t *testing.T) {
	for _, c := range []struct {
		g        impl.Grammar
		word     string
		expected []int64
	}{
		{twice(), "0", []int64{1}}, {twice(), "00", []int64{1, 1, 1}}, {twice(), "000", []int64{1, 1, 1, 1, 1, 1}},
		{grammar(1, 1, ""), "00", []int64{0, 0, 0}}, {grammar(1, 2, "0>a"), "1", []int64{0}}, {grammar(1, 2, "0>a"), "010", []int64{1, 0, 0, 0, 0, 1}},
		{grammar(8, 1, "7>a 6>a 0>a 5>77 5>00 5>22"), "00", []int64{128 + 64 + 1, 32, 128 + 64 + 1}},
		// Names of the parts 0, 01, 012, then 1, 12, then 2.
		{grammar(5, 3, "0>a 1>b 2>c 3>01 4>32"), "012", []int64{1, 8, 16, 2, 0, 4}},
		{grammar(5, 3, "0>a 1>b 2>c 3>12 4>03"), "012", []int64{1, 0, 16, 2, 8, 4}},
		{grammar(5, 3, "0>a 1>b 2>c 3>10 4>32"), "012", []int64{1, 0, 0, 2, 0, 4}},
		{grammar(2, 2, "0>a 1>00 1>11 0>10 0>11"), "0101", []int64{1, 0, 0, 0, 0, 0, 0, 1, 0, 0}},
		{grammar(2, 2, "0>a 1>00 1>11 0>10 0>11"), "00000", []int64{1, 2, 1, 3, 3, 1, 2, 1, 3, 1, 2, 1, 1, 2, 1}},
		{grammar(2, 2, "0>00 1>11 1>01 1>10"), "01", []int64{0, 0, 0}},
	} {
		chart, ok := impl.ChartOf(c.g, spelled(c.word))
		wantList(t, fmt.Sprint("ChartOf ", c.g, c.word), chart, ok, c.expected...)
	}
	chart, ok := impl.ChartOf(twice(), make([]int64, 12))
	wantList(t, "ChartOf 12 letters", chart, ok, slices.Repeat([]int64{1}, 78)...)
}

func TestParses(t *testing.T) {
	for _, c := range []struct {
		g     impl.Grammar
		word  string
		tree  []int64
		cost  int64
		count int64
	}{
		{twice(), "0", []int64{1}, 0, 1}, {twice(), "000", []int64{0, 1, 0, 1, 1}, 0, 2}, {twice(), "0000", []int64{0, 1, 0, 1, 0, 1, 1}, 0, 5},
		{grammar(1, 1, "0>a:1000"), "0", []int64{0}, 1000, 1}, {grammar(1, 1, "0>00:1000 0>a:1000"), zeros(12), slices.Concat(slices.Repeat([]int64{0, 1}, 11), []int64{1}), 23000, 58786},
		// Of a letter: the cheapest rule, the first one of several.
		{grammar(1, 1, "0>a:3 0>a:2 0>a:2 0>a:9"), "0", []int64{1}, 2, 4},
		{grammar(2, 2, "1>a 0>b 0>a:3 0>a:3"), "0", []int64{2}, 3, 2},
		// The rules that are there twice are two rules.
		{grammar(1, 1, "0>00 0>00 0>a 0>a"), "00", []int64{0, 2, 2}, 0, 8},
		{grammar(1, 1, "0>00:2 0>00:1 0>00:1 0>a"), "00", []int64{1, 3, 3}, 1, 3},
		// The first place counts before the first rule: 0 is made of 0 and 12 by the rule 1, of 01 and 2 by the rule 0.
		{grammar(3, 1, "0>12 0>21 1>22 2>a"), "000", []int64{1, 3, 2, 3, 3}, 0, 2},
		{grammar(3, 1, "0>12 0>21:1 1>22 2>a"), "000", []int64{0, 2, 3, 3, 3}, 0, 2},
		{grammar(3, 1, "0>12 0>21 0>21 1>22 1>22 2>a"), "000", []int64{1, 5, 3, 5, 5}, 0, 6},
		// A dear rule of a cheap place is not taken, nor a cheap rule with a dear part.
		{grammar(2, 2, "0>00 0>01:3 1>b 0>b:9 0>a"), "01", []int64{1, 4, 2}, 3, 2},
		{grammar(2, 2, "0>00 0>01:3 1>b:9 0>b:9 0>a"), "01", []int64{0, 4, 3}, 9, 2},
		{grammar(2, 2, "0>10:4 0>b:1 1>a:1"), "00001", []int64{0, 2, 0, 2, 0, 2, 0, 2, 1}, 21, 1},
		// Both parts, in order: their trees differ.
		{grammar(3, 3, "0>12 1>11 1>a 2>c 2>22 2>b"), "0012", []int64{0, 1, 2, 2, 4, 5, 3}, 0, 1},
		// The least tree has its first part as short as can be at each rule, also in the second part.
		{grammar(2, 1, "0>11 1>11 1>a"), "0000", []int64{0, 2, 1, 2, 1, 2, 2}, 0, 5},
		{grammar(2, 1, "0>11 1>11 1>a 0>01"), "000", []int64{0, 2, 1, 2, 2}, 0, 3},
	} {
		what := fmt.Sprint(c.g, c.word)
		word := spelled(c.word)
		cost, ok := impl.ParseCost(c.g, word)
		wantCount(t, "ParseCost "+what, cost, ok, c.cost)
		rules, cost, ok := impl.ParseTree(c.g, word)
		wantPriced(t, "ParseTree "+what, rules, cost, ok, c.tree, c.cost)
		count, ok := impl.CountTrees(c.g, word)
		wantCount(t, "CountTrees "+what, count, ok, c.count)
	}
}

func TestWordsWithoutTrees(t *testing.T) {
	for _, c := range []struct {
		g    impl.Grammar
		word string
	}{
		{grammar(1, 1, ""), "0"}, {grammar(1, 1, ""), zeros(12)}, {grammar(1, 1, "0>00"), "0"}, {grammar(1, 1, "0>00"), "00"}, {grammar(1, 1, "0>00 0>00:1"), zeros(12)},
		{grammar(1, 1, "0>a"), "00"}, {grammar(1, 2, "0>a 0>00"), "1"}, {grammar(1, 2, "0>a 0>00"), "0010"}, {grammar(2, 1, "1>a 1>11"), "00"},
		{grammar(2, 1, "0>a 0>01"), "00"}, {grammar(2, 1, "0>a 0>10"), "00"}, {grammar(3, 1, "0>12 1>21 2>12"), "0000"}, {grammar(2, 2, "0>01 0>a 1>b"), "10"},
		{doubled(4), zeros(7)}, {doubled(4), zeros(9)},
	} {
		what := fmt.Sprint(c.g, c.word)
		cost, ok := impl.ParseCost(c.g, spelled(c.word))
		wantCount(t, "ParseCost "+what, cost, ok, -1)
		tree, cost, ok := impl.ParseTree(c.g, spelled(c.word))
		wantNothingPriced(t, "ParseTree "+what, tree, cost, ok)
		count, ok := impl.CountTrees(c.g, spelled(c.word))
		wantCount(t, "CountTrees "+what, count, ok, 0)
	}
}

// knownChart tells which names are made of the parts of a word.
func knownChart(g impl.Grammar, word []int64) []int64 {
	costs, chart := knownCosts(g, word), []int64{}
	for from := range word {
		for to := from + 1; to <= len(word); to++ {
			sum, power := int64(0), int64(1)
			for name := range g.Names {
				if costs.of(name, from, to) >= 0 {
					sum += power
				}
				power *= 2
			}
			chart = append(chart, sum)
		}
	}
	return chart
}

// wantTreeOf checks that rules are a tree that makes a name of a word from a place on, and returns what is behind it.
func wantTreeOf(t *testing.T, g impl.Grammar, name int64, rules, word []int64) ([]int64, []int64) {
	t.Helper()
	if len(rules) == 0 || rules[0] < 0 || rules[0] >= int64(len(g.Rules)) || g.Rules[rules[0]].Left != name {
		t.Fatalf("%v: the rules %v do not make %d", g, rules, name)
	}
	rule := g.Rules[rules[0]]
	if rule.Second >= 0 {
		rest, behind := wantTreeOf(t, g, rule.First, rules[1:], word)
		return wantTreeOf(t, g, rule.Second, rest, behind)
	}
	if len(word) == 0 || word[0] != rule.First {
		t.Fatalf("%v: the rule %v does not begin %v", g, rule, word)
	}
	return rules[1:], word[1:]
}

// wantParses checks what is told of a word without trying out all its trees.
func wantParses(t *testing.T, g impl.Grammar, word []int64) {
	t.Helper()
	what, least := fmt.Sprint(g, word), knownParse(g, word)
	chart, ok := impl.ChartOf(g, word)
	wantList(t, "ChartOf "+what, chart, ok, knownChart(g, word)...)
	cost, ok := impl.ParseCost(g, word)
	wantCount(t, "ParseCost "+what, cost, ok, least)
	tree, cost, ok := impl.ParseTree(g, word)
	if least < 0 {
		wantNothingPriced(t, "ParseTree "+what, tree, cost, ok)
		return
	}
	wantPriced(t, "ParseTree "+what, tree, cost, ok, tree, least)
	rest, behind := wantTreeOf(t, g, 0, tree, word)
	want(t, "what is left of the tree of "+what, len(rest)+len(behind), 0)
	want(t, "what the tree of "+what+" costs", costOfTree(g, tree), least)
}

func TestRandomParses(t *testing.T) {
	r := rand.New(rand.NewSource(1))
	made := 0
	for range 1500 {
		letters := 1 + r.Int63n(2)
		g := randomGrammar(r, letters, 3, 9)
		word := append(randomWord(r, letters, 11), r.Int63n(letters))
		wantParses(t, g, word)
		if knownParse(g, word) >= 0 {
			made++
		}
	}
	if made < 300 {
		t.Errorf("just %d words have trees", made)
	}
}

// unnamedCount returns how many trees make a name of a word, without telling them.
func unnamedCount(g impl.Grammar, name int64, word []int64) int {
	count := 0
	for _, rule := range g.Rules {
		switch {
		case rule.Left != name:
		case rule.Second < 0 && len(word) == 1 && rule.First == word[0]:
			count++
		case rule.Second >= 0:
			for place := 1; place < len(word); place++ {
				count += unnamedCount(g, rule.First, word[:place]) * unnamedCount(g, rule.Second, word[place:])
			}
		}
	}
	return count
}

func TestParsesAmongAllTrees(t *testing.T) {
	r := rand.New(rand.NewSource(2))
	several := 0
	for range 3000 {
		letters := 1 + r.Int63n(2)
		g := randomGrammar(r, letters, 3, 9)
		word := append(randomWord(r, letters, 4), r.Int63n(letters))
		all := unnamedCount(g, 0, word)
		count, ok := impl.CountTrees(g, word)
		wantCount(t, fmt.Sprint("CountTrees ", g, word), count, ok, int64(all))
		if all > 3000 {
			continue
		}
		trees := knownTrees(g, 0, word)
		tree, least := knownLeast(g, trees)
		want(t, "known trees", len(trees), all)
		rules, cost, ok := impl.ParseTree(g, word)
		if least < 0 {
			wantNothingPriced(t, fmt.Sprint("ParseTree ", g, word), rules, cost, ok)
			continue
		}
		wantPriced(t, fmt.Sprint("ParseTree ", g, word), rules, cost, ok, tree, least)
		same := slices.DeleteFunc(trees, func(tree []int64) bool { return costOfTree(g, tree) != least })
		if len(same) > 1 {
			several++
		}
	}
	if several < 300 {
		t.Errorf("just %d words have several least trees", several)
	}
}

// tens returns a grammar that makes the name 0 of the word of n letters 0 by 10^n trees, with some more rules.
func tens(names, letters int64, more string) impl.Grammar {
	return grammar(names, letters, "0>10 "+strings.Repeat("0>a ", 10)+strings.Repeat("1>a ", 10)+more)
}

func TestManyTrees(t *testing.T) {
	const billion = 1000000000
	// The name 4 is made like the name 0 of tens, but the name 0 once more of the whole word.
	more := grammar(5, 2, "0>14 4>14 0>32 2>32 2>b 3>a "+strings.Repeat("1>a ", 10)+strings.Repeat("4>b ", 10))
	// The name 2 is made by many trees, and the name 0 of none or few of the same words.
	aside := grammar(3, 2, "2>12 0>b 0>a "+strings.Repeat("2>a ", 10)+strings.Repeat("1>a ", 10))
	for _, c := range []struct {
		g        impl.Grammar
		word     string
		expected int64
	}{
		{tens(2, 1, ""), zeros(8), billion / 10}, {tens(2, 1, ""), zeros(9), billion}, {tens(2, 1, ""), zeros(10), -1}, {tens(2, 1, ""), zeros(12), -1},
		{more, zeros(7) + "1", billion/10 + 1}, {more, zeros(8) + "1", -1}, {more, "0" + zeros(7), 0},
		{aside, "0", 1}, {aside, zeros(9), 0}, {aside, zeros(10), -1}, {aside, zeros(9) + "1", 0}, {aside, "1" + zeros(9), 0}, {aside, "1" + zeros(10), -1}, {aside, zeros(10) + "1", -1}, {aside, zeros(6) + "1" + zeros(5), 0},
		{tens(2, 2, ""), zeros(9) + "1", 0}, {tens(2, 2, ""), zeros(10) + "1", -1}, {tens(2, 2, ""), "1" + zeros(9), 0}, {tens(2, 2, ""), "1" + zeros(10) + "1", -1},
		{twice(), zeros(12), 58786}, {grammar(1, 1, strings.Repeat("0>00 ", 31)+"0>a"), zeros(12), -1}, {grammar(1, 1, strings.Repeat("0>00 ", 16)+strings.Repeat("0>a ", 16)), zeros(12), -1},
		{grammar(1, 1, strings.Repeat("0>00 ", 31)+"0>a"), zeros(6), 42 * 28629151}, {grammar(1, 1, "0>00 "+strings.Repeat("0>a ", 31)), zeros(5), 14 * 28629151},
		{manyRules(32), "0", 32},
	} {
		what := fmt.Sprint("CountTrees ", c.g, c.word)
		count, ok := impl.CountTrees(c.g, spelled(c.word))
		if c.expected < 0 || c.expected > billion {
			wantFailure(t, what, count, ok)
		} else {
			wantCount(t, what, count, ok, c.expected)
		}
		// The others do not count trees.
		wantParses(t, c.g, spelled(c.word))
	}
}

// ofWord returns whether each function of a grammar and a word fails, and with nothing.
func ofWord(g impl.Grammar, word []int64) map[string][2]bool {
	chart, one := impl.ChartOf(g, word)
	cost, two := impl.ParseCost(g, word)
	tree, price, three := impl.ParseTree(g, word)
	count, four := impl.CountTrees(g, word)
	shared, five := impl.ParsesShared(g, [][]int64{word}, 2)
	return map[string][2]bool{
		"ChartOf": {one, len(chart) == 0}, "ParseCost": {two, cost == 0}, "ParseTree": {three, len(tree) == 0 && price == 0},
		"CountTrees": {four, count == 0}, "ParsesShared": {five, len(shared) == 0},
	}
}

func TestWordsThatAreNone(t *testing.T) {
	for what, g := range invalidGrammars() {
		for name, result := range ofWord(g, []int64{0}) {
			want(t, name+" of the grammar with "+what, result, [2]bool{false, true})
		}
	}
	for _, word := range [][]int64{nil, {}, make([]int64, 13), make([]int64, 1000), {2}, {0, 0, 2}, {-1}, {0, -1, 0}, {1 << 32}, {0, 9223372036854775807}, {-9223372036854775808}} {
		for name, result := range ofWord(grammar(1, 2, "0>00 0>a 0>b"), word) {
			want(t, fmt.Sprint(name, " of the word ", word), result, [2]bool{false, true})
		}
	}
	for _, word := range [][]int64{make([]int64, 12), {1}, {0, 1}} {
		for name, result := range ofWord(grammar(1, 2, "0>00 0>a 0>b"), word) {
			want(t, fmt.Sprint(name, " of the word ", word), result[0], true)
		}
	}
}
