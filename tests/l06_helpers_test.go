package tests

import (
	"fmt"
	"math"
	"math/rand"
	"slices"
	"strings"
	"testing"

	"loop.example/g01357/impl"
)

// grammar returns a grammar whose rules are told like 0>12 for two names, or 0>a for the letter 0, with blanks between
// them; a cost can stand behind, as in 0>a:7.
func grammar(names, letters int64, text string) impl.Grammar {
	g := impl.Grammar{Names: names, Letters: letters}
	for _, part := range strings.Fields(text) {
		sides, cost, _ := strings.Cut(part, ":")
		rule := impl.Rule{Left: int64(sides[0] - '0'), Second: -1}
		if sides[2] >= 'a' {
			rule.First = int64(sides[2] - 'a')
		} else {
			rule.First, rule.Second = int64(sides[2]-'0'), int64(sides[3]-'0')
		}
		for _, digit := range cost {
			rule.Cost = 10*rule.Cost + int64(digit-'0')
		}
		g.Rules = append(g.Rules, rule)
	}
	return g
}

// twice is the grammar of the first example of the document.
func twice() impl.Grammar { return grammar(1, 1, "0>00 0>a") }

// doubled returns a grammar whose name 0 makes just the word of 2^(names-1) letters 0; each rule costs 1.
func doubled(names int64) impl.Grammar {
	g := impl.Grammar{Names: names, Letters: 1}
	for name := range names - 1 {
		g.Rules = append(g.Rules, impl.Rule{Left: name, First: name + 1, Second: name + 1, Cost: 1})
	}
	g.Rules = append(g.Rules, impl.Rule{Left: names - 1, First: 0, Second: -1, Cost: 1})
	return g
}

// manyRules returns a grammar with so many rules, all of them equal but for their costs.
func manyRules(rules int) impl.Grammar {
	g := impl.Grammar{Names: 1, Letters: 1}
	for i := range rules {
		g.Rules = append(g.Rules, impl.Rule{Second: -1, Cost: int64(i % 1001)})
	}
	return g
}

// randomGrammar returns a grammar of 1 to most names with small costs; there are rules that are there twice.
func randomGrammar(r *rand.Rand, letters, most int64, rules int) impl.Grammar {
	g := impl.Grammar{Names: 1 + r.Int63n(most), Letters: letters}
	for range r.Intn(rules + 1) {
		rule := impl.Rule{Left: r.Int63n(g.Names), Second: r.Int63n(g.Names), First: r.Int63n(g.Names), Cost: r.Int63n(4)}
		if r.Intn(2) == 0 {
			rule.First, rule.Second = r.Int63n(letters), -1
		}
		g.Rules = append(g.Rules, rule)
		if r.Intn(8) == 0 {
			g.Rules = append(g.Rules, rule)
		}
	}
	return g
}

// knownTrees returns the indices of the rules of all trees that make a name of a word, those with the first places first,
// and for each place those with the first rule.
func knownTrees(g impl.Grammar, name int64, word []int64) [][]int64 {
	all := [][]int64{}
	for i, rule := range g.Rules {
		if len(word) == 1 && rule.Second < 0 && rule.Left == name && rule.First == word[0] {
			all = append(all, []int64{int64(i)})
		}
	}
	for place := 1; place < len(word); place++ {
		for i, rule := range g.Rules {
			if rule.Left != name || rule.Second < 0 {
				continue
			}
			rest := knownTrees(g, rule.Second, word[place:])
			for _, first := range knownTrees(g, rule.First, word[:place]) {
				for _, second := range rest {
					all = append(all, slices.Concat([]int64{int64(i)}, first, second))
				}
			}
		}
	}
	return all
}

// costOfTree returns the sum of the costs of rules.
func costOfTree(g impl.Grammar, tree []int64) int64 {
	sum := int64(0)
	for _, i := range tree {
		sum += g.Rules[i].Cost
	}
	return sum
}

// knownLeast returns the first one of some trees with the least cost, and this; -1 if there is none.
func knownLeast(g impl.Grammar, trees [][]int64) ([]int64, int64) {
	tree, least := []int64(nil), int64(-1)
	for _, other := range trees {
		if cost := costOfTree(g, other); least < 0 || cost < least {
			tree, least = other, cost
		}
	}
	return tree, least
}

// partCosts has the least costs of names of parts of a word.
type partCosts map[[3]int64]int64

// of returns the least cost of a name and a part, -1 if there is none.
func (p partCosts) of(name int64, from, to int) int64 {
	cost, known := p[[3]int64{name, int64(from), int64(to)}]
	if !known {
		return -1
	}
	return cost
}

// knownCosts tells the least costs of all names and parts: each rule is tried at each part and place until no cost
// becomes less.
func knownCosts(g impl.Grammar, word []int64) partCosts {
	p := partCosts{}
	again := true
	try := func(name int64, from, to int, cost int64) {
		if less := lessOf(p.of(name, from, to), cost); less != p.of(name, from, to) {
			p[[3]int64{name, int64(from), int64(to)}], again = less, true
		}
	}
	for again {
		again = false
		for _, rule := range g.Rules {
			for from := range word {
				if rule.Second < 0 && rule.First == word[from] {
					try(rule.Left, from, from+1, rule.Cost)
				}
				for to := from + 2; rule.Second >= 0 && to <= len(word); to++ {
					for place := from + 1; place < to; place++ {
						both := sumOf(p.of(rule.First, from, place), p.of(rule.Second, place, to))
						try(rule.Left, from, to, sumOf(rule.Cost, both))
					}
				}
			}
		}
	}
	return p
}

// knownParse returns the least cost at which the name 0 is made of a word, -1 if there is none.
func knownParse(g impl.Grammar, word []int64) int64 { return knownCosts(g, word).of(0, 0, len(word)) }

// treeMachine returns a machine that reads trees, with ends told as 0 and 1.
func treeMachine(leaves, next []int64, ends string) impl.TreeMachine {
	t := impl.TreeMachine{States: int64(len(ends)), Letters: int64(len(leaves)), Leaves: leaves, Next: next}
	for _, end := range ends {
		t.Ends = append(t.Ends, end == '1')
	}
	return t
}

// evenLeaves reads trees with an even number of leaves.
func evenLeaves() impl.TreeMachine { return treeMachine([]int64{1}, []int64{0, 1, 1, 0}, "10") }

// leafCounter returns a machine of one letter that counts leaves modulo states, with the ends that are told.
func leafCounter(states int64, ends ...int64) impl.TreeMachine {
	t := impl.TreeMachine{States: states, Letters: 1, Leaves: []int64{1 % states}, Ends: make([]bool, states)}
	for first := range states {
		for second := range states {
			t.Next = append(t.Next, (first+second)%states)
		}
	}
	for _, end := range ends {
		t.Ends[end] = true
	}
	return t
}

// fullTrees returns a machine of one letter, the state k of which but the last one is that of the tree all of whose ways
// have k branches, and the last one that of all others; it reads the tree with some branches.
func fullTrees(states, end int64) impl.TreeMachine {
	t := impl.TreeMachine{States: states, Letters: 1, Leaves: []int64{0}, Ends: make([]bool, states)}
	for first := range states {
		for second := range states {
			if first == second {
				t.Next = append(t.Next, min(first+1, states-1))
			} else {
				t.Next = append(t.Next, states-1)
			}
		}
	}
	t.Ends[end] = true
	return t
}

// randomTrees returns a machine of 1 to most states.
func randomTrees(r *rand.Rand, letters, most int64) impl.TreeMachine {
	t := impl.TreeMachine{States: 1 + r.Int63n(most), Letters: letters}
	for range letters {
		t.Leaves = append(t.Leaves, r.Int63n(t.States))
	}
	// With fewer states behind than there are, some states often have no tree.
	to := 1 + r.Int63n(t.States)
	for range t.States * t.States {
		t.Next = append(t.Next, r.Int63n(to))
	}
	for range t.States {
		t.Ends = append(t.Ends, r.Intn(3) == 0)
	}
	return t
}

// tree returns the list of a tree that is told by its leaves, with brackets around both trees of a branch.
func tree(text string) []int64 {
	list := []int64{}
	for _, sign := range text {
		switch sign {
		case '(':
			list = append(list, -1)
		case ')':
		default:
			list = append(list, int64(sign-'0'))
		}
	}
	return list
}

// comb returns the tree with so many leaves 0, where the first or the second tree of each branch is a leaf.
func comb(leaves int, first bool) []int64 {
	if first {
		return append(slices.Repeat([]int64{-1, 0}, leaves-1), 0)
	}
	return append(slices.Repeat([]int64{-1}, leaves-1), make([]int64, leaves)...)
}

// partsOfTree returns both trees of the list of a branch.
func partsOfTree(list []int64) ([]int64, []int64) {
	missing := 1
	for at := 1; ; at++ {
		if list[at] == -1 {
			missing++
		} else {
			missing--
		}
		if missing == 0 {
			return list[1 : at+1], list[at+1:]
		}
	}
}

// treesOver returns all trees whose leaves are the letters of a word.
func treesOver(word []int64) [][]int64 {
	if len(word) == 1 {
		return [][]int64{word}
	}
	all := [][]int64{}
	for place := 1; place < len(word); place++ {
		for _, first := range treesOver(word[:place]) {
			for _, second := range treesOver(word[place:]) {
				all = append(all, slices.Concat([]int64{-1}, first, second))
			}
		}
	}
	return all
}

// treesUpTo returns all trees of at most most leaves.
func treesUpTo(letters int64, most int) [][]int64 {
	all := [][]int64{}
	for _, word := range wordsUpTo(letters, most)[1:] {
		all = append(all, treesOver(word)...)
	}
	return all
}

// knownState returns the state of a tree.
func knownState(t impl.TreeMachine, list []int64) int64 {
	if len(list) == 1 {
		return t.Leaves[list[0]]
	}
	first, second := partsOfTree(list)
	return t.Next[knownState(t, first)*t.States+knownState(t, second)]
}

// knownTreeRead reports whether a tree is read.
func knownTreeRead(t impl.TreeMachine, list []int64) bool { return t.Ends[knownState(t, list)] }

// knownFound returns the found states and the trees by which they were found: all pairs are told in order anew for each
// state.
func knownFound(t impl.TreeMachine) ([]int64, [][]int64) {
	states, trees := []int64{}, [][]int64{}
	for letter, state := range t.Leaves {
		if !slices.Contains(states, state) {
			states, trees = append(states, state), append(trees, []int64{int64(letter)})
		}
	}
	for {
		pairs := [][3]int{}
		for i := range states {
			for k := range states {
				pairs = append(pairs, [3]int{max(i, k), i, k})
			}
		}
		slices.SortFunc(pairs, func(a, b [3]int) int { return slices.Compare(a[:], b[:]) })
		isNew := func(p [3]int) bool { return !slices.Contains(states, t.Next[states[p[1]]*t.States+states[p[2]]]) }
		at := slices.IndexFunc(pairs, isNew)
		if at < 0 {
			return states, trees
		}
		i, k := pairs[at][1], pairs[at][2]
		states, trees = append(states, t.Next[states[i]*t.States+states[k]]), append(trees, slices.Concat([]int64{-1}, trees[i], trees[k]))
	}
}

// shuffledTrees returns a machine that reads the same trees, with other numbers for its states.
func shuffledTrees(t impl.TreeMachine, numbers []int) impl.TreeMachine {
	other := impl.TreeMachine{States: t.States, Letters: t.Letters, Next: make([]int64, len(t.Next)), Ends: make([]bool, len(t.Ends))}
	for _, state := range t.Leaves {
		other.Leaves = append(other.Leaves, int64(numbers[state]))
	}
	for first := range t.States {
		for second := range t.States {
			other.Next[int64(numbers[first])*t.States+int64(numbers[second])] = int64(numbers[t.Next[first*t.States+second]])
		}
		other.Ends[numbers[first]] = t.Ends[first]
	}
	return other
}

func wantNoGrammar(t *testing.T, what string, got impl.Grammar, ok bool) {
	t.Helper()
	if ok || got.Names != 0 || got.Letters != 0 || len(got.Rules) != 0 {
		t.Errorf("%s: got %v, %v, want a failure", what, got, ok)
	}
}

func wantGrammar(t *testing.T, what string, got impl.Grammar, ok bool, expected impl.Grammar) {
	t.Helper()
	want(t, what+" succeeds", ok, true)
	wantSame(t, what, got, expected)
}

func wantNoTrees(t *testing.T, what string, got impl.TreeMachine, ok bool) {
	t.Helper()
	if ok || got.States != 0 || got.Letters != 0 || len(got.Leaves)+len(got.Next)+len(got.Ends) != 0 {
		t.Errorf("%s: got %v, %v, want a failure", what, got, ok)
	}
}

func wantTrees(t *testing.T, what string, got impl.TreeMachine, ok bool, expected impl.TreeMachine) {
	t.Helper()
	want(t, what+" succeeds", ok, true)
	wantSame(t, what, got, expected)
}

// wantCount checks a number.
func wantCount(t *testing.T, what string, got int64, ok bool, expected int64) {
	t.Helper()
	if !ok || got != expected {
		t.Errorf("%s: got %d, %v, want %d", what, got, ok, expected)
	}
}

// wantPriced checks a list and its cost.
func wantPriced(t *testing.T, what string, got []int64, cost int64, ok bool, expected []int64, price int64) {
	t.Helper()
	if !ok || !slices.Equal(got, expected) || cost != price {
		t.Errorf("%s: got %v, %d, %v, want %v, %d", what, got, cost, ok, expected, price)
	}
}

// wantNothingPriced checks that a list and its cost could not be told.
func wantNothingPriced(t *testing.T, what string, got []int64, cost int64, ok bool) {
	t.Helper()
	if ok || len(got) != 0 || cost != 0 {
		t.Errorf("%s: got %v, %d, %v, want a failure", what, got, cost, ok)
	}
}

// invalidGrammars returns grammars of all kinds that are not valid.
func invalidGrammars() map[string]impl.Grammar {
	all := map[string]impl.Grammar{
		"nothing": {}, "no names": grammar(0, 1, ""), "9 names": grammar(9, 1, "0>a"), "no letters": grammar(1, 0, ""), "no letters, but a rule": grammar(1, 0, "0>00"), "no such letter": grammar(1, 0, "0>a"), "5 letters": grammar(1, 5, "0>a"),
		"33 rules": manyRules(33), "many rules": manyRules(10000),
		"a letter too great": grammar(3, 2, "0>a 0>c"), "a letter, but no such name": grammar(1, 4, "0>a 0>0c"),
		"Left too great": grammar(2, 2, "0>a 2>a"), "First too great": grammar(2, 4, "0>a 0>20"), "Second too great": grammar(2, 4, "0>a 0>02"),
		"a cost too great": grammar(1, 1, "0>a 0>a:1001"), "a cost of names too great": grammar(1, 1, "0>a 0>00:1001"),
	}
	for _, n := range []int64{-1, math.MinInt64, math.MaxInt64, 1 << 32} {
		all[fmt.Sprint("names ", n)] = grammar(n, 1, "0>a")
		all[fmt.Sprint("letters ", n)] = grammar(1, n, "0>a")
		for i, name := range []string{"Left", "First", "Second", "Cost"} {
			for _, text := range []string{"0>a", "0>00"} {
				g := grammar(1, 1, "0>a "+text)
				*[]*int64{&g.Rules[1].Left, &g.Rules[1].First, &g.Rules[1].Second, &g.Rules[1].Cost}[i] = n
				// With -1 for Second, a rule has a letter.
				if name != "Second" || n != -1 {
					all[fmt.Sprint(name, n, " of ", text)] = g
				}
			}
		}
	}
	minusTwo := twice()
	minusTwo.Rules[0].Second = -2
	all["Second -2"] = minusTwo
	return all
}

// invalidTrees returns machines of all kinds that are not valid.
func invalidTrees() map[string]impl.TreeMachine {
	all := map[string]impl.TreeMachine{
		"nothing": {}, "no states": {Letters: 1, Leaves: []int64{0}}, "17 states": leafCounter(17, 0),
		"no letters":        treeMachine(nil, []int64{0}, "1"),
		"5 letters":         treeMachine(make([]int64, 5), []int64{0}, "1"),
		"too few leaves":    {States: 1, Letters: 2, Leaves: []int64{0}, Next: []int64{0}, Ends: []bool{true}},
		"too many leaves":   {States: 1, Letters: 1, Leaves: []int64{0, 0}, Next: []int64{0}, Ends: []bool{true}},
		"too few next":      treeMachine([]int64{0}, make([]int64, 3), "01"),
		"too many next":     treeMachine([]int64{0}, make([]int64, 5), "01"),
		"no next":           treeMachine([]int64{0}, nil, "1"),
		"too few ends":      {States: 2, Letters: 1, Leaves: []int64{0}, Next: make([]int64, 4), Ends: []bool{true}},
		"too many ends":     {States: 2, Letters: 1, Leaves: []int64{0}, Next: make([]int64, 4), Ends: make([]bool, 3)},
		"next as for words": {States: 2, Letters: 1, Leaves: []int64{0}, Next: make([]int64, 2), Ends: make([]bool, 2)},
	}
	for _, n := range []int64{-1, 3, math.MinInt64, math.MaxInt64, 1 << 32} {
		all[fmt.Sprint("a leaf ", n)] = treeMachine([]int64{0, n}, make([]int64, 4), "01")
		all[fmt.Sprint("next ", n)] = treeMachine([]int64{0, 1}, []int64{0, 0, 0, n}, "01")
		states, letters := evenLeaves(), evenLeaves()
		states.States, letters.Letters = n, n
		all[fmt.Sprint("states ", n)], all[fmt.Sprint("letters ", n)] = states, letters
	}
	all["a leaf 2"] = treeMachine([]int64{0, 2}, make([]int64, 4), "01")
	all["next 2"] = treeMachine([]int64{0, 1}, []int64{2, 0, 0, 0}, "01")
	return all
}

// invalidLists returns lists that are no trees for letters.
func invalidLists(letters int64) map[string][]int64 {
	all := map[string][]int64{
		"nothing": nil, "an empty list": {}, "a branch alone": {-1}, "a branch with one tree": {-1, 0}, "two leaves": {0, 0},
		"a branch with three trees": tree("(000)"), "a tree and a leaf": tree("(00)0"), "a leaf and a tree": tree("0(00)"), "two trees": tree("(00)(00)"),
		"a branch behind its trees": {0, 0, -1}, "a branch between its trees": {0, -1, 0}, "a branch without its second tree": tree("((00)"), "branches alone": {-1, -1, -1},
		"13 leaves": comb(13, true), "13 leaves on the other side": comb(13, false), "24 numbers": append(comb(12, true), 0), "many numbers": comb(5000, false), "22 numbers": comb(12, false)[1:],
		"many branches": slices.Repeat([]int64{-1}, 100000),
	}
	for _, n := range []int64{-2, letters, letters + 1, math.MinInt64, math.MaxInt64, 1 << 32} {
		all[fmt.Sprint("the leaf ", n)], all[fmt.Sprint("a first leaf ", n)], all[fmt.Sprint("a second leaf ", n)] = []int64{n}, []int64{-1, n, 0}, []int64{-1, 0, n}
		all[fmt.Sprint("a branch ", n)] = []int64{n, 0, 0}
	}
	return all
}

func TestLimitsOfChapter6(t *testing.T) {
	wantSame(t, "limits", []int{impl.MaxNames, impl.MaxRules, impl.MaxTree}, []int{8, 32, 23})
}
