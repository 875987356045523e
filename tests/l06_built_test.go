package tests

import (
	"fmt"
	"math"
	"math/rand"
	"slices"
	"strings"
	"testing"

	"loop.example/g01357/impl"
)

// plainWith returns a plain machine of some states with an end for each digit 1, whose letters lead to states in turn.
func plainWith(letters int64, ends string) impl.Plain {
	p := impl.Plain{States: int64(len(ends)), Letters: letters}
	for i := range p.States * letters {
		p.Next = append(p.Next, i%p.States)
	}
	for _, end := range ends {
		p.Ends = append(p.Ends, end == '1')
	}
	return p
}

func TestGrammarOf(t *testing.T) {
	for _, c := range []struct {
		p        impl.Plain
		names    int64
		expected string
	}{
		{plain(1, []int64{0}, 1), 2, "0>10 0>a 1>a"}, {plain(1, []int64{0}, 0), 2, "0>10 1>a"}, {even(), 3, "0>21 1>20 1>a 2>a"},
		{plain(2, []int64{1, 0, 2, 2, 0, 1}, 1, 0, 1), 5, "0>31 0>40 0>b 1>32 1>a 1>42 1>b 2>30 2>a 2>41 3>a 4>b"},
		{plain(4, []int64{0, 0, 0, 0}, 1), 5, "0>10 0>a 0>20 0>b 0>30 0>c 0>40 0>d 1>a 2>b 3>c 4>d"},
		{plain(2, []int64{1, 1, 1, 1}, 1, 0), 4, "0>21 0>31 1>21 1>31 2>a 3>b"},
		{cycle(7), 8, "0>71 1>72 2>73 3>74 4>75 5>76 6>70 7>a"},
	} {
		g, ok := impl.GrammarOf(c.p)
		wantGrammar(t, fmt.Sprint("GrammarOf ", c.p), g, ok, grammar(c.names, c.p.Letters, c.expected))
	}
}

func TestGrammarOfAtLimits(t *testing.T) {
	for _, c := range []struct {
		p     impl.Plain
		rules int // -1 for a failure
	}{
		{cycle(7, 1), 7 + 1 + 1}, {cycle(8), -1}, {cycle(64), -1}, {plainWith(4, "0000"), 20}, {plainWith(4, "00001"), -1}, {plainWith(4, "00000"), -1},
		{plainWith(3, "00000"), 18}, {plainWith(3, "000000"), -1}, {plainWith(2, "111111"), 26}, {plainWith(2, "0000000"), -1},
		// Letters of plainWith lead to each state as often: 16 + 4 rules, and 4 more for each end.
		{plainWith(4, "1110"), 32}, {plainWith(4, "1111"), -1}, {plainWith(4, "0111"), 32}, {plainWith(3, "01111"), 30}, {plainWith(3, "11111"), -1},
		// 15 arcs to ends and 3 letters, of which one less is an end.
		{plain(3, append(make([]int64, 14), 4), 1, 1, 1, 1, 0), 32}, {plain(3, append(make([]int64, 14), 4), 1, 1, 1, 1, 1), -1},
		{plain(4, append(make([]int64, 12), 1, 1, 1, 1), 1, 0, 0, 0), 32}, {plain(4, append(make([]int64, 13), 1, 1, 1), 1, 0, 0, 0), -1},
		{plain(4, append(make([]int64, 11), 1, 1, 1, 1, 1), 1, 0, 0, 0), 31},
	} {
		g, ok := impl.GrammarOf(c.p)
		what := fmt.Sprint("GrammarOf ", c.p)
		if c.rules < 0 {
			wantNoGrammar(t, what, g, ok)
			continue
		}
		want(t, what+" succeeds", ok && impl.ValidGrammar(g), true)
		want(t, "rules of "+what, len(g.Rules), c.rules)
	}
	for what, p := range map[string]impl.Plain{
		"nothing": {}, "no states": plain(1, nil), "5 letters": plain(5, make([]int64, 5), 1), "a state too great": plain(1, []int64{1}, 1), "too few next": plain(2, []int64{0}, 1),
		"too few ends": {States: 2, Letters: 1, Next: []int64{0, 0}, Ends: []bool{true}}, "65 states": cycle(65), "a state below 0": plain(1, []int64{-1}, 1),
	} {
		g, ok := impl.GrammarOf(p)
		wantNoGrammar(t, "GrammarOf with "+what, g, ok)
	}
}

func TestGrammarOfReadsAsPlainMachines(t *testing.T) {
	r := rand.New(rand.NewSource(6))
	made := 0
	for range 300 {
		p := randomPlain(r, 1+r.Int63n(3))
		g, ok := impl.GrammarOf(p)
		if p.States+p.Letters > 8 {
			wantNoGrammar(t, fmt.Sprint("GrammarOf ", p), g, ok)
			continue
		}
		if !ok {
			continue
		}
		made++
		for _, word := range wordsUpTo(p.Letters, 4)[1:] {
			count := int64(0)
			if knownReads(p, word) {
				count = 1
			}
			cost, ok := impl.ParseCost(g, word)
			wantCount(t, fmt.Sprint("ParseCost GrammarOf ", p, word), cost, ok, count-1)
			trees, ok := impl.CountTrees(g, word)
			wantCount(t, fmt.Sprint("CountTrees GrammarOf ", p, word), trees, ok, count)
		}
		for long := int64(1); long <= 5; long++ {
			count, _ := impl.CountWords(p, long)
			read, ok := impl.CountRead(g, long)
			wantCount(t, fmt.Sprint("CountRead GrammarOf ", p, long), read, ok, count)
		}
	}
	if made < 100 {
		t.Errorf("just %d grammars", made)
	}
}

func TestEitherGrammar(t *testing.T) {
	for _, c := range []struct {
		a, b     impl.Grammar
		names    int64
		expected string
	}{
		{twice(), twice(), 3, "0>11 0>a 0>22 0>a 1>11 1>a 2>22 2>a"},
		{grammar(1, 3, ""), grammar(1, 3, ""), 3, ""}, {grammar(1, 3, "0>c:7"), grammar(2, 3, ""), 4, "0>c:7 1>c:7"}, {grammar(2, 3, ""), grammar(1, 3, "0>c:7"), 4, "0>c:7 3>c:7"},
		{grammar(2, 2, "1>b:1 0>01:2 1>10:3 0>b:4"), grammar(3, 2, "2>02:5 0>12:6 1>a:7 0>a:8"), 6, "0>12:2 0>b:4 0>45:6 0>a:8 2>b:1 1>12:2 2>21:3 1>b:4 5>35:5 3>45:6 4>a:7 3>a:8"},
		{grammar(2, 1, "1>a"), grammar(2, 1, "1>a 1>11"), 5, "2>a 4>a 4>44"}, {grammar(1, 1, "0>a 0>a"), grammar(1, 1, "0>a:1"), 3, "0>a 0>a 0>a:1 1>a 1>a 2>a:1"},
	} {
		g, ok := impl.EitherGrammar(c.a, c.b)
		wantGrammar(t, fmt.Sprint("EitherGrammar ", c.a, c.b), g, ok, grammar(c.names, c.a.Letters, c.expected))
	}
}

func TestEitherGrammarAtLimits(t *testing.T) {
	for _, c := range []struct {
		a, b impl.Grammar
		ok   bool
	}{
		{grammar(3, 1, ""), grammar(4, 1, ""), true}, {grammar(4, 1, ""), grammar(4, 1, ""), false}, {grammar(1, 1, ""), grammar(6, 1, ""), true}, {grammar(6, 1, ""), grammar(1, 1, ""), true},
		{grammar(7, 1, ""), grammar(1, 1, ""), false}, {grammar(1, 1, ""), grammar(7, 1, ""), false}, {grammar(8, 1, ""), grammar(8, 1, ""), false},
		{manyRules(8), manyRules(8), true}, {manyRules(8), manyRules(9), false}, {manyRules(9), manyRules(8), false}, {manyRules(16), manyRules(0), true}, {manyRules(17), manyRules(0), false}, {manyRules(0), manyRules(32), false}, {manyRules(32), manyRules(32), false},
		{grammar(2, 1, strings.Repeat("1>a ", 16)), grammar(2, 1, strings.Repeat("1>a ", 16)), true}, {grammar(2, 1, strings.Repeat("1>a ", 32)), grammar(2, 1, ""), true}, {grammar(2, 1, strings.Repeat("1>a ", 32)), grammar(2, 1, "1>a"), false},
		{grammar(2, 1, strings.Repeat("1>a ", 15)), grammar(2, 1, "0>a "+strings.Repeat("1>a ", 15)), true}, {grammar(2, 1, strings.Repeat("1>a ", 15)), grammar(2, 1, "0>a "+strings.Repeat("1>a ", 16)), false},
		{grammar(1, 1, "0>a"), grammar(1, 2, "0>a"), false}, {grammar(1, 4, "0>a"), grammar(1, 3, "0>a"), false}, {grammar(1, 4, "0>d"), grammar(1, 4, "0>d"), true},
	} {
		what := fmt.Sprint("EitherGrammar ", c.a, c.b)
		g, ok := impl.EitherGrammar(c.a, c.b)
		if !c.ok {
			wantNoGrammar(t, what, g, ok)
			continue
		}
		want(t, what+" succeeds", ok && impl.ValidGrammar(g), true)
		want(t, "names of "+what, g.Names, 1+c.a.Names+c.b.Names)
	}
	for what, bad := range invalidGrammars() {
		g, ok := impl.EitherGrammar(bad, grammar(1, 1, "0>a"))
		wantNoGrammar(t, "EitherGrammar with "+what, g, ok)
		g, ok = impl.EitherGrammar(grammar(1, 1, "0>a"), bad)
		wantNoGrammar(t, "EitherGrammar behind one with "+what, g, ok)
		g, ok = impl.EitherGrammar(bad, bad)
		wantNoGrammar(t, "EitherGrammar twice with "+what, g, ok)
		g, ok = impl.BackGrammar(bad)
		wantNoGrammar(t, "BackGrammar with "+what, g, ok)
	}
}

func TestEitherGrammarCostsTheLesserCost(t *testing.T) {
	r := rand.New(rand.NewSource(7))
	made := 0
	for range 300 {
		letters := 1 + r.Int63n(2)
		a, b := randomGrammar(r, letters, 3, 7), randomGrammar(r, letters, 3, 7)
		g, ok := impl.EitherGrammar(a, b)
		if !ok {
			continue
		}
		made++
		for _, word := range wordsUpTo(letters, 4)[1:] {
			what := fmt.Sprint(a, b, word)
			cost, ok := impl.ParseCost(g, word)
			wantCount(t, "ParseCost EitherGrammar "+what, cost, ok, lessOf(knownParse(a, word), knownParse(b, word)))
			one, _ := impl.CountTrees(a, word)
			other, _ := impl.CountTrees(b, word)
			count, ok := impl.CountTrees(g, word)
			wantCount(t, "CountTrees EitherGrammar "+what, count, ok, one+other)
		}
	}
	if made < 200 {
		t.Errorf("just %d grammars", made)
	}
}

func TestBackGrammar(t *testing.T) {
	for _, c := range [][2]string{
		{"", ""}, {"0>a:3", "0>a:3"}, {"0>12:4 1>b 2>20:1000 2>11", "0>21:4 1>b 2>02:1000 2>11"}, {"0>01 0>10 0>b 0>a", "0>10 0>01 0>b 0>a"}, {"0>01 0>01", "0>10 0>10"},
	} {
		g, ok := impl.BackGrammar(grammar(3, 2, c[0]))
		wantGrammar(t, "BackGrammar "+c[0], g, ok, grammar(3, 2, c[1]))
	}
	r := rand.New(rand.NewSource(8))
	for range 300 {
		letters := 1 + r.Int63n(3)
		g := randomGrammar(r, letters, 8, 30)
		if !impl.ValidGrammar(g) {
			continue
		}
		back, ok := impl.BackGrammar(g)
		want(t, fmt.Sprint("BackGrammar ", g, " succeeds"), ok, true)
		again, ok := impl.BackGrammar(back)
		wantGrammar(t, fmt.Sprint("BackGrammar twice ", g), again, ok, g)
		for range 10 {
			word := append(randomWord(r, letters, 11), r.Int63n(letters))
			backwards := slices.Clone(word)
			slices.Reverse(backwards)
			cost, ok := impl.ParseCost(back, backwards)
			wantCount(t, fmt.Sprint("ParseCost BackGrammar ", g, backwards), cost, ok, knownParse(g, word))
			forth, isForth := impl.CountTrees(g, word)
			count, isBack := impl.CountTrees(back, backwards)
			want(t, fmt.Sprint("CountTrees BackGrammar ", g, backwards), fmt.Sprint(count, isBack), fmt.Sprint(forth, isForth))
		}
	}
}

func TestParsesShared(t *testing.T) {
	g := grammar(2, 2, "0>10:4 0>b:1 1>a:1 1>00:3")
	words := slices.Concat(wordsUpTo(2, 3)[1:], [][]int64{make([]int64, 12), {1}, spelled("000000000001")})[:16]
	for count := range 17 {
		expected := []int64{}
		for _, word := range words[:count] {
			expected = append(expected, knownParse(g, word))
		}
		for workers := int64(1); workers <= 8; workers++ {
			costs, ok := impl.ParsesShared(g, words[:count], workers)
			wantList(t, fmt.Sprint("ParsesShared ", count, " words, ", workers, " workers"), costs, ok, expected...)
		}
		for _, workers := range []int64{0, 9, -1, 16, math.MinInt64, math.MaxInt64} {
			costs, ok := impl.ParsesShared(g, words[:count], workers)
			wantListFailure(t, fmt.Sprint("ParsesShared ", count, " words, ", workers, " workers"), costs, ok)
		}
	}
	costs, ok := impl.ParsesShared(g, append(words, words[0]), 2)
	wantListFailure(t, "ParsesShared of 17 words", costs, ok)
	costs, ok = impl.ParsesShared(g, nil, 8)
	wantList(t, "ParsesShared of no words", costs, ok)
	for _, bad := range [][]int64{nil, {}, {2}, {-1}, make([]int64, 13)} {
		for at := range 3 {
			costs, ok := impl.ParsesShared(g, slices.Insert([][]int64{{0}, {1}}, at, bad), 2)
			wantListFailure(t, fmt.Sprint("ParsesShared of a word ", bad), costs, ok)
		}
	}
	for what, bad := range invalidGrammars() {
		costs, ok := impl.ParsesShared(bad, nil, 1)
		wantListFailure(t, "ParsesShared of no words with "+what, costs, ok)
		costs, ok = impl.ParsesShared(bad, [][]int64{{0}}, 1)
		wantListFailure(t, "ParsesShared with "+what, costs, ok)
	}
}
