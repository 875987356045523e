package tests

import (
	"cmp"
	"fmt"
	"math"
	"math/rand"
	"slices"
	"testing"

	"loop.example/g01357/impl"
)

func TestEndCosts(t *testing.T) {
	list, ok := impl.EndCosts(one())
	wantList(t, "EndCosts of the example", list, ok, 3, 0)
	// 2 leads nowhere, 3 leads in a round of empty arcs, 4 leads to an end that costs less than its own.
	list, ok = impl.EndCosts(machine(1, costs(-1, 5), []int64{-1, 1000, -1, -1, 9},
		[4]int64{0, 1, -1, 1000}, [4]int64{0, 1, 0, 999}, [4]int64{0, 2, 0, 0}, [4]int64{3, 3, -1, 0}, [4]int64{3, 2, -1, 0}, [4]int64{4, 0, 0, 7}, [4]int64{4, 4, -1, 0}))
	wantList(t, "EndCosts", list, ok, 1999, 1000, -1, -1, 9)
	list, ok = impl.EndCosts(machine(1, []int64{0, 0}, []int64{-1, -1}, [4]int64{0, 1, 0, 0}))
	wantList(t, "EndCosts with no end", list, ok, -1, -1)
	long := chain(15)
	for i := range long.Arcs {
		long.Arcs[i].Cost = 1000
	}
	list, ok = impl.EndCosts(long)
	wantList(t, "EndCosts of a chain", list, ok, 15000, 14000, 13000, 12000, 11000, 10000, 9000, 8000, 7000, 6000, 5000, 4000, 3000, 2000, 1000, 0)
}

// weighed returns the words that a machine reads, in the order of costs, lengths and letters, and their costs.
func weighed(m impl.Machine, words [][]int64) ([][]int64, []int64) {
	read := slices.DeleteFunc(slices.Clone(words), func(word []int64) bool { return knownCost(m, word) < 0 })
	slices.SortStableFunc(read, func(a, b []int64) int { return cmp.Compare(knownCost(m, a), knownCost(m, b)) })
	list := []int64{}
	for _, word := range read {
		list = append(list, knownCost(m, word))
	}
	return read, list
}

func TestBestWordsAreThoseWithTheLeastCosts(t *testing.T) {
	r := rand.New(rand.NewSource(5))
	words := wordsUpTo(3, 4)
	for range 300 {
		m := randomMachine(r, 3, true)
		known, list := weighed(m, words)
		// A way of 4 states without a round reads at most 3 letters, so the best word is among these.
		word, cost, ok := impl.BestWord(m)
		want(t, "BestWord succeeds", ok, len(known) > 0)
		if ok {
			wantSame(t, "BestWord", []any{word, cost}, []any{known[0], list[0]})
		} else if len(word) > 0 || cost != 0 {
			t.Errorf("BestWord fails with %v, %v", word, cost)
		}
		for _, count := range []int{1, 3, 64} {
			best, least, ok := impl.BestWords(m, 4, int64(count))
			want(t, "BestWords succeeds", ok, true)
			wantSame(t, "BestWords", []any{best, least}, []any{known[:min(count, len(known))], list[:min(count, len(list))]})
		}
		if t.Failed() {
			t.Fatal(m)
		}
	}
}

func TestBestWordOfMany(t *testing.T) {
	// 0, 2 and 1 with any letter but 3 cost 4, and 0 alone costs 5; with any number of 3 in front, they cost the same.
	m := machine(4, []int64{1, -1, -1, -1, 3}, []int64{-1, -1, 2, -1, -1},
		[4]int64{0, 1, 1, 0}, [4]int64{1, 2, 2, 1}, [4]int64{1, 2, 1, 1}, [4]int64{1, 2, 0, 1}, [4]int64{0, 2, 0, 2},
		[4]int64{0, 3, 0, 1}, [4]int64{3, 2, 2, 0}, [4]int64{4, 4, -1, 0}, [4]int64{0, 0, 3, 0}, [4]int64{3, 2, 3, 9})
	word, cost, ok := impl.BestWord(m)
	wantList(t, "BestWord", word, ok, 0, 2)
	want(t, "the cost of BestWord", cost, 4)
	words, list, ok := impl.BestWords(m, 2, 64)
	want(t, "BestWords succeeds", ok, true)
	wantSame(t, "BestWords", words, [][]int64{{0, 2}, {1, 0}, {1, 1}, {1, 2}, {0}, {3, 0}, {0, 3}})
	wantSame(t, "the costs of BestWords", list, []int64{4, 4, 4, 4, 5, 5, 13})
}

func TestBestWordOfNoLetters(t *testing.T) {
	// All words cost the same, so the one of no letters is the best one.
	m := machine(2, []int64{5, -1}, []int64{0, 0}, [4]int64{0, 1, -1, 0}, [4]int64{0, 1, 0, 0}, [4]int64{0, 0, 1, 0})
	word, cost, ok := impl.BestWord(m)
	wantList(t, "BestWord of no letters", word, ok)
	want(t, "the cost of BestWord", cost, 5)
	words, list, ok := impl.BestWords(m, 0, 64)
	want(t, "BestWords of no letters succeeds", ok, true)
	wantSame(t, "BestWords of no letters", []any{words, list}, []any{[][]int64{{}}, []int64{5}})
	words, list, ok = impl.BestWords(one(), 0, 1)
	want(t, "BestWords where none is read succeeds", ok, true)
	wantSame(t, "BestWords where none is read", []any{words, list}, []any{[]int64{}, []int64{}})
}

func TestBestWordAtTheGreatestLength(t *testing.T) {
	word, cost, ok := impl.BestWord(chain(12))
	wantList(t, "BestWord of 12 letters", word, ok, make([]int64, 12)...)
	want(t, "the cost of BestWord", cost, 12)
	word, cost, ok = impl.BestWord(chain(13))
	wantListFailure(t, "BestWord of 13 letters", word, ok)
	want(t, "the cost of BestWord that fails", cost, 0)
	for _, c := range []struct {
		end int64
		ok  bool
	}{{0, false}, {1, false}, {2, true}, {3, true}, {-1, true}} {
		// 12 letters cost 14 with their end, and 13 letters cost 12 and the end c.
		m := chain(13)
		m.Ends[12], m.Ends[13], m.Arcs[12].Cost = 2, c.end, 0
		word, cost, ok := impl.BestWord(m)
		want(t, fmt.Sprint("BestWord with a longer one that ends for ", c.end), ok, c.ok)
		if ok {
			wantList(t, "BestWord", word, ok, make([]int64, 12)...)
			want(t, "the cost of BestWord", cost, 14)
		} else if len(word) > 0 || cost != 0 {
			t.Errorf("BestWord fails with %v, %v", word, cost)
		}
	}
}

func TestBestWordWithoutWaysFails(t *testing.T) {
	for what, m := range map[string]impl.Machine{
		"no start": machine(1, []int64{-1}, []int64{0}, [4]int64{0, 0, -1, 0}),
		"no end":   machine(1, []int64{0}, []int64{-1}, [4]int64{0, 0, 0, 0}),
		"no arc":   machine(1, []int64{0, -1}, []int64{-1, 0}),
	} {
		word, cost, ok := impl.BestWord(m)
		wantListFailure(t, "BestWord with "+what, word, ok)
		want(t, "the cost of BestWord with "+what, cost, 0)
		words, list, ok := impl.BestWords(m, 5, 64)
		want(t, "BestWords with "+what+" succeeds", ok, true)
		wantSame(t, "BestWords with "+what, []any{words, list}, []any{[]int64{}, []int64{}})
	}
}

func TestBestWordsAtLimits(t *testing.T) {
	all := machine(4, []int64{0}, []int64{0}, [4]int64{0, 0, 0, 0}, [4]int64{0, 0, 1, 0}, [4]int64{0, 0, 2, 0}, [4]int64{0, 0, 3, 0})
	known := wordsUpTo(4, 5)
	for _, count := range []int64{1, 2, 63, 64} {
		words, list, ok := impl.BestWords(all, 5, count)
		want(t, "BestWords succeeds", ok, true)
		wantSame(t, fmt.Sprint("BestWords ", count), []any{words, list}, []any{known[:count], costs(0, int(count))})
	}
	// A word of 5 letters costs less than that of none.
	fewer := machine(2, append(costs(-1, 5), 0), append([]int64{0}, costs(9, 5)...),
		[4]int64{5, 4, 0, 0}, [4]int64{4, 3, 1, 0}, [4]int64{3, 2, 0, 0}, [4]int64{2, 1, 1, 0}, [4]int64{1, 0, 1, 0}, [4]int64{0, 0, 0, 0})
	words, list, ok := impl.BestWords(fewer, 5, 2)
	want(t, "BestWords succeeds", ok, true)
	wantSame(t, "BestWords of 5 letters", []any{words, list}, []any{[][]int64{{0, 1, 0, 1, 1}, {}}, []int64{0, 9}})
	for _, c := range [][2]int64{{-1, 1}, {6, 1}, {0, 0}, {0, 65}, {5, -1}, {math.MinInt64, 1}, {math.MaxInt64, 1}, {1, math.MinInt64}, {1, math.MaxInt64}} {
		words, list, ok := impl.BestWords(all, c[0], c[1])
		wantListFailure(t, fmt.Sprint("BestWords ", c), words, ok)
		wantListFailure(t, fmt.Sprint("the costs of BestWords ", c), list, ok)
	}
}

func TestWordsShared(t *testing.T) {
	r := rand.New(rand.NewSource(6))
	words := wordsUpTo(2, 5)
	for range 20 {
		m := randomMachine(r, 2, true)
		for workers := int64(1); workers <= 8; workers++ {
			for _, count := range []int{0, 1, 2, 7, 9, 63} {
				list, ok := impl.WordsShared(m, words[:count], workers)
				want(t, "WordsShared succeeds", ok, true)
				want(t, "the costs of WordsShared", len(list), count)
				for i, cost := range list {
					want(t, fmt.Sprint("WordsShared ", words[i]), cost, knownCost(m, words[i]))
				}
			}
		}
		if t.Failed() {
			t.Fatal(m)
		}
	}
}

func TestWordsSharedAtLimits(t *testing.T) {
	words := make([][]int64, 64)
	for i := range words {
		words[i] = make([]int64, i%13)
	}
	for _, workers := range []int64{1, 8} {
		list, ok := impl.WordsShared(chain(12), words, workers)
		want(t, "WordsShared with 64 words succeeds", ok, true)
		for i, cost := range list {
			want(t, fmt.Sprint("WordsShared with ", i%13, " letters"), cost, []int64{-1, 12}[i%13/12])
		}
	}
	list, ok := impl.WordsShared(chain(12), append(words, nil), 1)
	wantListFailure(t, "WordsShared with 65 words", list, ok)
	for _, workers := range []int64{0, -1, 9, math.MinInt64, math.MaxInt64} {
		list, ok := impl.WordsShared(one(), [][]int64{{0}}, workers)
		wantListFailure(t, fmt.Sprint("WordsShared with workers ", workers), list, ok)
	}
	for _, word := range [][]int64{{1}, {-1}, make([]int64, 13)} {
		list, ok := impl.WordsShared(one(), [][]int64{{0}, word, {}}, 2)
		wantListFailure(t, fmt.Sprint("WordsShared with ", word), list, ok)
	}
}
