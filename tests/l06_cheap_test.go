package tests

import (
	"fmt"
	"math"
	"math/rand"
	"slices"
	"testing"

	"loop.example/g01357/impl"
)

// chosenRules tells step by step which rule is given to which name, -1 for a name that is given none, and the costs: each
// time, all rules that can be given are put in order.
func chosenRules(g impl.Grammar) ([]int64, []int64) {
	given, least := costs(-1, int(g.Names)), costs(-1, int(g.Names))
	for {
		all := [][2]int64{}
		for i, rule := range g.Rules {
			isGiven := rule.Second < 0 || given[rule.First] >= 0 && given[rule.Second] >= 0
			if given[rule.Left] >= 0 || !isGiven {
				continue
			}
			sum := rule.Cost
			if rule.Second >= 0 {
				sum += least[rule.First] + least[rule.Second]
			}
			all = append(all, [2]int64{sum, int64(i)})
		}
		if len(all) == 0 {
			return given, least
		}
		slices.SortFunc(all, func(a, b [2]int64) int { return slices.Compare(a[:], b[:]) })
		name := g.Rules[all[0][1]].Left
		least[name], given[name] = all[0][0], all[0][1]
	}
}

// chosenWord returns the word that is made by given rules.
func chosenWord(g impl.Grammar, given []int64, name int64) []int64 {
	rule := g.Rules[given[name]]
	if rule.Second < 0 {
		return []int64{rule.First}
	}
	return slices.Concat(chosenWord(g, given, rule.First), chosenWord(g, given, rule.Second))
}

// knownLeastCosts tries all rules until no cost becomes less.
func knownLeastCosts(g impl.Grammar) []int64 {
	least := costs(-1, int(g.Names))
	for again := true; again; {
		again = false
		for _, rule := range g.Rules {
			cost := rule.Cost
			if rule.Second >= 0 {
				cost = sumOf(cost, sumOf(least[rule.First], least[rule.Second]))
			}
			if less := lessOf(least[rule.Left], cost); less != least[rule.Left] {
				least[rule.Left], again = less, true
			}
		}
	}
	return least
}

func TestLeastCostsAndCheapWord(t *testing.T) {
	for _, c := range []struct {
		g     impl.Grammar
		least []int64
		word  string
	}{
		{twice(), []int64{0}, "0"}, {grammar(1, 1, "0>00 0>a:1000"), []int64{1000}, "0"}, {grammar(1, 2, "0>b:2 0>a:2"), []int64{2}, "1"}, {grammar(1, 2, "0>b:3 0>a:2"), []int64{2}, "0"},
		{grammar(2, 1, "0>11:1 1>a:2"), []int64{5, 2}, "00"}, {grammar(2, 1, "0>11:1 1>a:2 0>a:6"), []int64{5, 2}, "00"}, {grammar(2, 1, "0>11:1 1>a:2 0>a:4"), []int64{4, 2}, "0"},
		// Of equal sums, the first rule is given, of the same name or of another one.
		{grammar(2, 1, "0>11:1 1>a:2 0>a:5"), []int64{5, 2}, "00"}, {grammar(2, 1, "0>a:5 0>11:1 1>a:2"), []int64{5, 2}, "0"},
		{grammar(3, 3, "0>12 2>b 1>a 2>c"), []int64{0, 0, 0}, "01"}, {grammar(3, 3, "0>21 2>c:4 1>a 2>b:3"), []int64{3, 0, 3}, "10"},
		// When the rule 1 is the cheapest one, the rule 0 has no names yet that have rules.
		{grammar(2, 1, "0>11 0>a 1>a"), []int64{0, 0}, "0"}, {grammar(2, 1, "0>11 1>a 0>a"), []int64{0, 0}, "00"},
		// A name that would be cheaper of itself has no rule yet.
		{grammar(2, 2, "0>01 1>10 1>b:7 0>a:9"), []int64{9, 7}, "0"}, {grammar(2, 2, "0>11 1>01 1>00 1>b:7"), []int64{14, 7}, "11"},
		// Long ways of cheap rules cost less than a short one.
		{grammar(4, 2, "0>11 1>22 2>33 3>a 0>b:1"), []int64{0, 0, 0, 0}, "00000000"}, {grammar(4, 2, "0>11 1>22 2>33 3>a:1 0>b:9"), []int64{8, 4, 2, 1}, "00000000"}, {grammar(4, 2, "0>11 1>22 2>33 3>a:1 0>b:7"), []int64{7, 4, 2, 1}, "1"},
		{grammar(8, 4, "0>12 1>34 2>56 3>a:1 4>b:2 5>c:4 6>77 7>d:8"), []int64{23, 3, 20, 1, 2, 4, 16, 8}, "01233"},
		// Names without words beside.
		{grammar(4, 1, "0>a:3 1>11 2>23 3>32 0>11"), []int64{3, -1, -1, -1}, "0"}, {grammar(3, 1, "0>a:3 2>01"), []int64{3, -1, -1}, "0"},
		{doubled(1), []int64{1}, "0"}, {doubled(4), []int64{15, 7, 3, 1}, zeros(8)},
		// 12 letters.
		{grammar(5, 1, "0>12 1>22 2>33 3>44 4>a"), []int64{0, 0, 0, 0, 0}, zeros(12)},
	} {
		least, ok := impl.LeastCosts(c.g)
		wantList(t, fmt.Sprint("LeastCosts ", c.g), least, ok, c.least...)
		word, cost, ok := impl.CheapWord(c.g)
		wantPriced(t, fmt.Sprint("CheapWord ", c.g), word, cost, ok, spelled(c.word), c.least[0])
	}
}

func TestGrammarsWithoutCheapWords(t *testing.T) {
	dear := doubled(8)
	for i := range dear.Rules {
		dear.Rules[i].Cost = 1000
	}
	for _, c := range []struct {
		g     impl.Grammar
		least []int64
	}{
		{grammar(1, 1, ""), costs(-1, 1)}, {grammar(8, 4, ""), costs(-1, 8)}, {grammar(1, 1, "0>00"), costs(-1, 1)}, {grammar(2, 1, "1>a 1>11"), []int64{-1, 0}}, {grammar(2, 1, "0>01 1>a:2"), []int64{-1, 2}},
		{grammar(3, 1, "0>12 1>21 2>a"), []int64{-1, -1, 0}}, {grammar(4, 1, "0>12 1>23 2>31 3>12"), costs(-1, 4)},
		// Words of 13, 16 and 128 letters.
		{grammar(6, 1, "0>15 1>22 2>33 3>44 4>a 5>24"), costs(0, 6)}, {doubled(5), []int64{31, 15, 7, 3, 1}}, {doubled(8), []int64{255, 127, 63, 31, 15, 7, 3, 1}},
		{dear, []int64{255000, 127000, 63000, 31000, 15000, 7000, 3000, 1000}},
		// The cheapest word is too long, though there is a short one that costs more, or one of another tree that costs as much.
		{grammar(5, 1, "0>11 1>22 2>33 3>44 4>a 0>a:1000"), costs(0, 5)}, {grammar(5, 1, "0>11:3 1>22 2>33 3>44 4>a 0>a:3"), []int64{3, 0, 0, 0, 0}},
	} {
		least, ok := impl.LeastCosts(c.g)
		wantList(t, fmt.Sprint("LeastCosts ", c.g), least, ok, c.least...)
		word, cost, ok := impl.CheapWord(c.g)
		wantNothingPriced(t, fmt.Sprint("CheapWord ", c.g), word, cost, ok)
	}
	word, cost, ok := impl.CheapWord(grammar(5, 1, "0>a:3 0>11:3 1>22 2>33 3>44 4>a"))
	wantPriced(t, "CheapWord of a short word of the first rule", word, cost, ok, []int64{0}, 3)
}

// longGrammar returns a grammar in which the words of names become longer and longer towards the name 0.
func longGrammar(r *rand.Rand) impl.Grammar {
	g := impl.Grammar{Names: 4 + r.Int63n(5), Letters: 2}
	for name := range g.Names - 1 {
		later := func() int64 { return min(name+1+r.Int63n(3), g.Names-1) }
		for range 1 + r.Intn(3) {
			g.Rules = append(g.Rules, impl.Rule{Left: name, First: later(), Second: later(), Cost: r.Int63n(30)})
		}
	}
	g.Rules = append(g.Rules, impl.Rule{Left: g.Names - 1, First: 1, Second: -1}, impl.Rule{Left: r.Int63n(g.Names), First: 0, Second: -1, Cost: r.Int63n(90)})
	r.Shuffle(len(g.Rules), func(i, k int) { g.Rules[i], g.Rules[k] = g.Rules[k], g.Rules[i] })
	return g
}

// usedRules tells from the rules with letters on which rules are in trees of which names, and which of them are in trees of
// the name 0.
func usedRules(g impl.Grammar) []int64 {
	least, used := knownLeastCosts(g), map[[2]int64]bool{}
	for again := true; again; {
		again = false
		for i, rule := range g.Rules {
			if rule.Second >= 0 && (least[rule.First] < 0 || least[rule.Second] < 0) {
				continue
			}
			for k := range g.Rules {
				other := int64(k)
				isPart := rule.Second >= 0 && (used[[2]int64{rule.First, other}] || used[[2]int64{rule.Second, other}])
				if key := [2]int64{rule.Left, other}; (i == k || isPart) && !used[key] {
					used[key], again = true, true
				}
			}
		}
	}
	list := []int64{}
	for i := range g.Rules {
		if used[[2]int64{0, int64(i)}] {
			list = append(list, int64(i))
		}
	}
	return list
}

func TestUsefulRules(t *testing.T) {
	for _, c := range []struct {
		g        impl.Grammar
		expected []int64
	}{
		{twice(), []int64{0, 1}}, {grammar(1, 1, ""), nil}, {grammar(1, 1, "0>00"), nil}, {grammar(1, 1, "0>a"), []int64{0}}, {grammar(2, 1, "1>a 1>11"), nil}, {grammar(2, 1, "0>a 1>a 1>11 1>00"), []int64{0}},
		{grammar(2, 1, "0>a 0>11"), []int64{0}}, {grammar(2, 1, "0>01 0>10 1>a"), nil}, {grammar(2, 1, "0>01 0>10 1>a 0>a"), []int64{0, 1, 2, 3}},
		// The name 1 is reached by rules alone that lead nowhere.
		{grammar(3, 1, "0>12 0>21 1>a 0>a 2>22"), []int64{3}}, {grammar(3, 1, "0>12 0>21 1>a 0>a 2>12 2>21"), []int64{3}}, {grammar(3, 1, "0>12 1>a 2>11 2>01"), []int64{0, 1, 2, 3}},
		// Rules that are reached at last come first.
		{grammar(8, 1, "7>a 6>77 5>66 4>55 3>44 2>33 1>22 0>11"), []int64{0, 1, 2, 3, 4, 5, 6, 7}}, {grammar(8, 1, "7>a 6>77 5>66 3>44 2>33 1>22 0>11"), nil}, {grammar(8, 1, "7>a 6>77 5>66 3>44 2>33 1>22 0>11 0>a"), []int64{7}},
		{grammar(8, 1, "7>a 6>67 6>76 5>65 4>45 3>43 2>23 1>12 0>01 1>a 0>a 2>a 3>a 4>a 5>a 6>a"), []int64{0, 1, 2, 3, 4, 5, 6, 7, 8, 9, 10, 11, 12, 13, 14, 15}},
		// Rules of all costs, also those that are there twice, and of words that are longer than 12 letters.
		{grammar(1, 2, "0>a:1000 0>a 0>a 0>00:1000 0>00:1000 0>b:7"), []int64{0, 1, 2, 3, 4, 5}}, {doubled(8), []int64{0, 1, 2, 3, 4, 5, 6, 7}},
	} {
		rules, ok := impl.UsefulRules(c.g)
		wantList(t, fmt.Sprint("UsefulRules ", c.g), rules, ok, c.expected...)
		wantSame(t, fmt.Sprint("usedRules ", c.g), usedRules(c.g), append([]int64{}, c.expected...))
	}
}

func TestRandomCheapWords(t *testing.T) {
	r := rand.New(rand.NewSource(3))
	made, long := 0, 0
	for i := range 4000 {
		g := randomGrammar(r, 1+r.Int63n(3), 8, 20)
		if i%2 == 0 {
			g = longGrammar(r)
		}
		what := fmt.Sprint(g)
		least, ok := impl.LeastCosts(g)
		wantList(t, "LeastCosts "+what, least, ok, knownLeastCosts(g)...)
		rules, ok := impl.UsefulRules(g)
		wantList(t, "UsefulRules "+what, rules, ok, usedRules(g)...)
		given, all := chosenRules(g)
		wantList(t, "chosen costs "+what, all, true, least...)
		word, cost, ok := impl.CheapWord(g)
		if given[0] < 0 {
			wantNothingPriced(t, "CheapWord "+what, word, cost, ok)
			continue
		}
		expected := chosenWord(g, given, 0)
		if len(expected) > 12 {
			long++
			wantNothingPriced(t, "CheapWord "+what, word, cost, ok)
			continue
		}
		made++
		wantPriced(t, "CheapWord "+what, word, cost, ok, expected, least[0])
		want(t, "cost of the cheap word of "+what, knownParse(g, word), cost)
	}
	if made < 2000 || long < 100 {
		t.Errorf("just %d words, and %d that are too long", made, long)
	}
}

func TestNoWordIsCheaper(t *testing.T) {
	r := rand.New(rand.NewSource(4))
	for range 200 {
		g := randomGrammar(r, 2, 3, 9)
		least, _ := impl.LeastCosts(g)
		for _, word := range wordsUpTo(2, 4)[1:] {
			costs := knownCosts(g, word)
			for name := range g.Names {
				cost := costs.of(name, 0, len(word))
				if cost >= 0 && (least[name] < 0 || cost < least[name]) {
					t.Errorf("%v: %d makes %v at the cost %d, not %d", g, name, word, cost, least[name])
				}
			}
		}
	}
}

func TestCountRead(t *testing.T) {
	for _, c := range []struct {
		g        impl.Grammar
		expected [5]int64
	}{
		{twice(), [5]int64{1, 1, 1, 1, 1}}, {grammar(1, 4, "0>00 0>a 0>b 0>c 0>d"), [5]int64{4, 16, 64, 256, 1024}}, {grammar(1, 4, "0>00 0>a 0>c 0>a"), [5]int64{2, 4, 8, 16, 32}},
		{grammar(1, 4, ""), [5]int64{}}, {grammar(1, 1, "0>00"), [5]int64{}}, {grammar(1, 2, "0>b"), [5]int64{1}}, {grammar(2, 1, "1>11 1>a"), [5]int64{}}, {doubled(3), [5]int64{0, 0, 0, 1}},
		// Palindromes of odd lengths, and words of brackets.
		{grammar(5, 2, "0>a 0>b 0>13 0>24 1>a 2>b 3>01 4>02"), [5]int64{2, 0, 4, 0, 8}}, {grammar(4, 2, "0>00 0>12 0>13 1>a 2>b 3>02"), [5]int64{0, 1, 0, 2, 0}},
	} {
		for long, expected := range c.expected {
			count, ok := impl.CountRead(c.g, int64(long+1))
			wantCount(t, fmt.Sprint("CountRead ", c.g, long+1), count, ok, expected)
		}
		for _, long := range []int64{0, 6, -1, 12, math.MinInt64, math.MaxInt64} {
			count, ok := impl.CountRead(c.g, long)
			wantFailure(t, fmt.Sprint("CountRead ", c.g, long), count, ok)
		}
	}
}

func TestRandomCountRead(t *testing.T) {
	r := rand.New(rand.NewSource(5))
	for range 150 {
		letters := 1 + r.Int63n(3)
		g, counts := randomGrammar(r, letters, 4, 12), [5]int64{}
		for _, word := range wordsUpTo(letters, 4)[1:] {
			if knownParse(g, word) >= 0 {
				counts[len(word)]++
			}
		}
		for long := int64(1); long < 5; long++ {
			count, ok := impl.CountRead(g, long)
			wantCount(t, fmt.Sprint("CountRead ", g, long), count, ok, counts[long])
		}
	}
}

func TestInvalidGrammarsHaveNoCosts(t *testing.T) {
	for what, g := range invalidGrammars() {
		least, ok := impl.LeastCosts(g)
		wantListFailure(t, "LeastCosts with "+what, least, ok)
		word, cost, ok := impl.CheapWord(g)
		wantNothingPriced(t, "CheapWord with "+what, word, cost, ok)
		rules, ok := impl.UsefulRules(g)
		wantListFailure(t, "UsefulRules with "+what, rules, ok)
		count, ok := impl.CountRead(g, 1)
		wantFailure(t, "CountRead with "+what, count, ok)
	}
}
