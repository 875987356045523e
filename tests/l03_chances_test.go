package tests

import (
	"fmt"
	"math"
	"math/rand"
	"slices"
	"testing"

	"loop.example/g01357/impl"
)

// told is the word for which chances of uneven are known to the last bit.
func told() []int64 { return []int64{0, 2, 1, 1, 0} }

// seldomWord is the word whose chance seldom rounds to 0.
func seldomWord() []int64 { return make([]int64, 12) }

// eachReading calls check with many random models and words of at most 4 letters.
func eachReading(check func(r *rand.Rand, m impl.Model, word []int64)) {
	eachModel(func(r *rand.Rand, m impl.Model) { check(r, m, randomWord(r, m.Letters, 4)) })
}

// rowsOf parts a list into rows of one number for each state.
func rowsOf(m impl.Model, list []float32) [][]float32 {
	return slices.Collect(slices.Chunk(list, int(m.States)))
}

// sum returns the sum of numbers, as SumNumbers tells.
func sum(list []float32) float32 {
	x, _ := impl.SumNumbers(list)
	return x
}

// divided returns numbers, each divided by their sum.
func divided(list []float32) []float32 {
	by := sum(list)
	shares := slices.Clone(list)
	for i := range shares {
		shares[i] /= by
	}
	return shares
}

func TestChancesAreTold(t *testing.T) {
	m := uneven()
	list, ok := impl.ForwardOf(m, told())
	wantBits(t, "ForwardOf", list, ok, "3e4ccccd 3e99999a 3f000000 3dbc6a7f 3de0418a 3df2b022 3cc5addb 3c855e29 3d68576f 3c82bf22 3bd4e98a 3c8eb1cb 3ba7b21c 3b2619dc 3bc3b516 3aa75b86 3b20a79b 3affd333")
	list, ok = impl.BackwardOf(m, told())
	wantBits(t, "BackwardOf", list, ok, "3c8a8b83 39e11886 3b8e2209 3c511a24 3d11a2c2 3ba960b0 3c8674c5 3d8865f5 3d97a0cf 3ca30554 3e12680a 3e825073 3f333334 3d4ccccd 3ea8f5c3 3f800000 3f800000 3f800000")
	x, ok := impl.ChanceOf(m, told())
	wantBits(t, "ChanceOf", []float32{x}, ok, "3bba1f7c")
	x, ok = impl.LogChanceOf(m, told())
	wantBits(t, "LogChanceOf", []float32{x}, ok, "c0a57733")
	list, ok = impl.HiddenAt(m, told(), 2)
	wantBits(t, "HiddenAt 2", list, ok, "3d8ecde9 3e437972 3f3d47e7")
	list, ok = impl.HiddenAt(m, told(), 5)
	wantBits(t, "HiddenAt 5", list, ok, "3e663077 3edcf855 3eafef6f")
	list, ok = impl.PairAt(m, told(), 3)
	wantBits(t, "PairAt 3", list, ok, "3ca12179 3c0a1cb1 3ce3e28b 3d8f7eb7 3a833206 3dbd69d3 3f0a7c69 3c5306b8 3e6820fd")
	states, x, ok := impl.BestHidden(m, told())
	wantList(t, "BestHidden", states, ok, 0, 1, 2, 2, 0, 1)
	wantBits(t, "the chance of BestHidden", []float32{x}, ok, "3a5b4379")
	x, ok = impl.HiddenChance(m, told(), []int64{2, 0, 1, 2, 1, 0})
	wantBits(t, "HiddenChance", []float32{x}, ok, "3619d1f0")
	list, ok = impl.NextLetters(m, told())
	wantBits(t, "NextLetters", list, ok, "3e95ac64 3ebb5f6c 3eaef430")
}

func TestExamplesOfChances(t *testing.T) {
	for _, word := range wordsUpTo(2, 2)[3:] {
		x, ok := impl.ChanceOf(evenModel(3, 2), word)
		wantNear(t, "ChanceOf with an even model", x, ok, 0.25)
		x, ok = impl.ChanceOf(evenModel(2, 2), word)
		wantOne(t, "ChanceOf with an even model", x, ok, 0.25)
	}
	// A ring that shows each letter for sure has just one way to show a word.
	ring, word := sureRing(3), []int64{0, 1, 2, 0}
	states, x, ok := impl.BestHidden(ring, word)
	wantList(t, "BestHidden of a ring", states, ok, 0, 1, 2, 0, 1)
	wantOne(t, "the chance of BestHidden of a ring", x, ok, 1)
	for _, way := range hiddenWays(ring, 5) {
		x, ok = impl.HiddenChance(ring, word, way)
		if slices.Equal(way, states) {
			wantOne(t, "HiddenChance of the way", x, ok, 1)
		} else {
			wantOne(t, fmt.Sprint("HiddenChance of ", way), x, ok, 0)
		}
	}
}

func TestChancesAreThoseOfAllWays(t *testing.T) {
	eachReading(func(r *rand.Rand, m impl.Model, word []int64) {
		expected := knownChance(m, word)
		x, ok := impl.ChanceOf(m, word)
		wantNear(t, "ChanceOf", x, ok, expected)
		if log, ok := impl.LogChanceOf(m, word); ok != (expected > 0) {
			t.Errorf("LogChanceOf of a word with the chance %v: %v", expected, ok)
		} else if ok {
			wantNear(t, "LogChanceOf", log, ok, math.Log(expected))
		}
		greatest := 0.0
		for _, way := range hiddenWays(m, len(word)+1) {
			greatest = max(greatest, wayChance(m, word, way))
			x, ok = impl.HiddenChance(m, word, way)
			wantNear(t, "HiddenChance", x, ok, wayChance(m, word, way))
		}
		way, x, ok := impl.BestHidden(m, word)
		wantNear(t, "the chance of BestHidden", x, ok, greatest)
		if expected > 0 {
			wantNear(t, "the chance of the way of BestHidden", float32(wayChance(m, word, way)), ok, greatest)
		}
	})
}

func TestChancesAreTheSameForwardAndBackward(t *testing.T) {
	eachReading(func(r *rand.Rand, m impl.Model, word []int64) {
		forward, first := impl.ForwardOf(m, word)
		backward, second := impl.BackwardOf(m, word)
		if !first || !second || len(forward) != len(backward) || len(forward) != (len(word)+1)*int(m.States) {
			t.Fatalf("%v, %v, %d and %d numbers", first, second, len(forward), len(backward))
		}
		one, other := rowsOf(m, forward), rowsOf(m, backward)
		wantNumbers(t, "the first row of ForwardOf", one[0], true, m.Starts...)
		wantNumbers(t, "the last row of BackwardOf", other[len(word)], true, slices.Repeat([]float32{1}, int(m.States))...)
		chance, ok := impl.ChanceOf(m, word)
		wantOne(t, "ChanceOf", chance, ok, sum(one[len(word)]))
		for at := range one {
			all, ok := impl.DotNumbers(one[at], other[at])
			wantNear(t, "the sum of a place", all, ok, float64(chance))
		}
	})
}

func TestLikelyStatesAreTold(t *testing.T) {
	eachReading(func(r *rand.Rand, m impl.Model, word []int64) {
		forward, _ := impl.ForwardOf(m, word)
		backward, _ := impl.BackwardOf(m, word)
		one, other := rowsOf(m, forward), rowsOf(m, backward)
		for at := range one {
			products := slices.Clone(one[at])
			for i := range products {
				products[i] *= other[at][i]
			}
			wantDivided(t, "HiddenAt", products, func() ([]float32, bool) { return impl.HiddenAt(m, word, int64(at)) })
		}
		for at, letter := range word {
			products := []float32{}
			for i := range m.States {
				for k := range m.States {
					x := one[at][i] * m.Shows[i*m.Letters+letter]
					x *= m.Steps[i*m.States+k]
					products = append(products, x*other[at+1][k])
				}
			}
			wantDivided(t, "PairAt", products, func() ([]float32, bool) { return impl.PairAt(m, word, int64(at)) })
		}
		last, products := one[len(word)], []float32{}
		for letter := range m.Letters {
			shown := float32(0)
			for i, x := range last {
				shown += float32(x * m.Shows[int64(i)*m.Letters+letter])
			}
			products = append(products, shown/sum(last))
		}
		next, ok := impl.NextLetters(m, word)
		if !(sum(last) > 0) {
			wantListFailure(t, "NextLetters behind a word with the chance 0", next, ok)
			return
		}
		wantNumbers(t, "NextLetters", next, ok, products...)
		wantNear(t, "the sum of NextLetters", sum(next), ok, 1)
	})
}

// wantDivided checks that a function returns some numbers divided by their sum, and fails if this is 0.
func wantDivided(t *testing.T, what string, products []float32, call func() ([]float32, bool)) {
	t.Helper()
	got, ok := call()
	if !(sum(products) > 0) {
		wantListFailure(t, what+" of a word with the chance 0", got, ok)
		return
	}
	wantNumbers(t, what, got, ok, divided(products)...)
	wantNear(t, "the sum of "+what, sum(got), ok, 1)
}

func TestLikelyStepsAreThoseOfStates(t *testing.T) {
	eachReading(func(r *rand.Rand, m impl.Model, word []int64) {
		for at := range word {
			pairs, ok := impl.PairAt(m, word, int64(at))
			if !ok {
				return
			}
			from, first := impl.HiddenAt(m, word, int64(at))
			to, second := impl.HiddenAt(m, word, int64(at)+1)
			for i, row := range rowsOf(m, pairs) {
				wantNear(t, "the sum of the steps from a state", sum(row), first, float64(from[i]))
				column := []float32{}
				for _, row := range rowsOf(m, pairs) {
					column = append(column, row[i])
				}
				wantNear(t, "the sum of the steps to a state", sum(column), second, float64(to[i]))
			}
		}
	})
}

func TestWordsOfNoLetters(t *testing.T) {
	m := uneven()
	m.Starts = []float32{.2, .3, .4995}
	list, ok := impl.ForwardOf(m, nil)
	wantNumbers(t, "ForwardOf", list, ok, m.Starts...)
	list, ok = impl.BackwardOf(m, []int64{})
	wantNumbers(t, "BackwardOf", list, ok, 1, 1, 1)
	x, ok := impl.ChanceOf(m, nil)
	wantOne(t, "ChanceOf", x, ok, sum(m.Starts))
	x, ok = impl.LogChanceOf(m, nil)
	wantOne(t, "LogChanceOf", x, ok, 0)
	list, ok = impl.HiddenAt(m, nil, 0)
	wantNumbers(t, "HiddenAt", list, ok, divided(m.Starts)...)
	list, ok = impl.PairAt(m, nil, 0)
	wantListFailure(t, "PairAt", list, ok)
	states, x, ok := impl.BestHidden(m, nil)
	wantList(t, "BestHidden", states, ok, 2)
	wantOne(t, "the chance of BestHidden", x, ok, .4995)
	x, ok = impl.HiddenChance(m, nil, []int64{1})
	wantOne(t, "HiddenChance", x, ok, .3)
}

func TestWordsWithTheChance0(t *testing.T) {
	for what, c := range map[string]struct {
		m    impl.Model
		word []int64
	}{"a ring": {sureRing(3), []int64{0, 1, 1}}, "rounded": {seldom(), seldomWord()}} {
		x, ok := impl.ChanceOf(c.m, c.word)
		wantOne(t, "ChanceOf "+what, x, ok, 0)
		states, x, ok := impl.BestHidden(c.m, c.word)
		wantList(t, "BestHidden "+what, states, ok, make([]int64, len(c.word)+1)...)
		wantOne(t, "the chance of BestHidden "+what, x, ok, 0)
		x, ok = impl.HiddenChance(c.m, c.word, states)
		wantOne(t, "HiddenChance "+what, x, ok, 0)
		for at := range int64(len(c.word)) {
			list, ok := impl.HiddenAt(c.m, c.word, at)
			wantListFailure(t, "HiddenAt "+what, list, ok)
			list, ok = impl.PairAt(c.m, c.word, at)
			wantListFailure(t, "PairAt "+what, list, ok)
		}
		list, ok := impl.NextLetters(c.m, c.word)
		wantListFailure(t, "NextLetters "+what, list, ok)
	}
	x, ok := impl.LogChanceOf(sureRing(3), []int64{0, 1, 1})
	wantFailure(t, "LogChanceOf a ring", x, ok)
	x, ok = impl.LogChanceOf(seldom(), seldomWord())
	wantNear(t, "a twelfth of LogChanceOf rounded", x/12, ok, math.Log(0.0001))
}

func TestChancesOfLeastNumbers(t *testing.T) {
	list, ok := impl.ForwardOf(faint(), []int64{0})
	wantBits(t, "ForwardOf", list, ok, "00000001 00000001 3f800000 00000001 00000001 00000000")
	list, ok = impl.HiddenAt(faint(), []int64{0}, 1)
	wantNumbers(t, "HiddenAt", list, ok, .5, .5, 0)
	x, ok := impl.ChanceOf(faint(), []int64{0, 0})
	wantBits(t, "ChanceOf", []float32{x}, ok, "00000002")
	x, ok = impl.LogChanceOf(faint(), []int64{0, 0})
	wantOne(t, "LogChanceOf", x, ok, impl.LogNumber(number(2)))
	list, ok = impl.NextLetters(faint(), []int64{0})
	wantNumbers(t, "NextLetters", list, ok, 1, 0)
	// Half of the least number is rounded to 0, so that HiddenAt succeeds, and PairAt does not.
	m := model(2, []float32{number(leastSub), 1}, []float32{.5, .5, 0, 1}, []float32{1, 0, 0, 1})
	list, ok = impl.PairAt(m, []int64{0}, 0)
	wantListFailure(t, "PairAt", list, ok)
	list, ok = impl.HiddenAt(m, []int64{0}, 0)
	wantNumbers(t, "HiddenAt", list, ok, 1, 0)
}

func TestEqualWays(t *testing.T) {
	for states := range int64(5) {
		for long := range 13 {
			got, _, ok := impl.BestHidden(evenModel(states+1, 1), make([]int64, long))
			wantList(t, "BestHidden of an even model", got, ok, make([]int64, long+1)...)
		}
	}
	// Both ways to the last state are equal, and so are both last states.
	m := model(1, []float32{0, .5, .5, 0, 0}, []float32{
		1, 0, 0, 0, 0,
		0, 0, 0, .5, .5,
		0, 0, 0, .5, .5,
		1, 0, 0, 0, 0,
		1, 0, 0, 0, 0}, []float32{1, 1, 1, 1, 1})
	got, x, ok := impl.BestHidden(m, []int64{0})
	wantList(t, "BestHidden of equal ways", got, ok, 1, 3)
	wantOne(t, "the chance of BestHidden of equal ways", x, ok, .25)
	got, _, ok = impl.BestHidden(m, nil)
	wantList(t, "BestHidden of equal starts", got, ok, 1)
}

// wantNoChances checks that all functions of a model, a word, a place in it and its states fail.
func wantNoChances(t *testing.T, what string, m impl.Model, word, hidden []int64) {
	t.Helper()
	list, ok := impl.ForwardOf(m, word)
	wantListFailure(t, "ForwardOf "+what, list, ok)
	list, ok = impl.BackwardOf(m, word)
	wantListFailure(t, "BackwardOf "+what, list, ok)
	x, ok := impl.ChanceOf(m, word)
	wantFailure(t, "ChanceOf "+what, x, ok)
	x, ok = impl.LogChanceOf(m, word)
	wantFailure(t, "LogChanceOf "+what, x, ok)
	list, ok = impl.HiddenAt(m, word, 0)
	wantListFailure(t, "HiddenAt "+what, list, ok)
	list, ok = impl.PairAt(m, word, 0)
	wantListFailure(t, "PairAt "+what, list, ok)
	states, x, ok := impl.BestHidden(m, word)
	wantListFailure(t, "BestHidden "+what, states, ok)
	wantFailure(t, "the chance of BestHidden "+what, x, ok)
	x, ok = impl.HiddenChance(m, word, hidden)
	wantFailure(t, "HiddenChance "+what, x, ok)
	list, ok = impl.NextLetters(m, word)
	wantListFailure(t, "NextLetters "+what, list, ok)
}

func TestChancesOfOthersFail(t *testing.T) {
	for what, m := range invalidModels() {
		wantNoChances(t, "with "+what, m, []int64{0}, []int64{0, 0})
		wantNoChances(t, "of no letters with "+what, m, nil, []int64{0})
	}
	m := uneven()
	for _, word := range [][]int64{{3}, {-1}, {0, 1, 2, 3}, {math.MaxInt64}, {math.MinInt64}, make([]int64, 13), make([]int64, 100000)} {
		wantNoChances(t, fmt.Sprint("of ", len(word), " letters"), m, word, make([]int64, len(word)+1))
	}
	long := make([]int64, 12)
	list, ok := impl.ForwardOf(m, long)
	want(t, "ForwardOf 12 letters", ok && len(list) == 39, true)
	list, ok = impl.BackwardOf(m, long)
	want(t, "BackwardOf 12 letters", ok && len(list) == 39, true)
	list, ok = impl.NextLetters(m, long)
	want(t, "NextLetters behind 12 letters", ok && len(list) == 3, true)
}

func TestPlacesInWords(t *testing.T) {
	m := uneven()
	for _, at := range []int64{-1, 6, 7, math.MaxInt64, math.MinInt64} {
		list, ok := impl.HiddenAt(m, told(), at)
		wantListFailure(t, fmt.Sprint("HiddenAt ", at), list, ok)
		list, ok = impl.PairAt(m, told(), at)
		wantListFailure(t, fmt.Sprint("PairAt ", at), list, ok)
	}
	list, ok := impl.PairAt(m, told(), 5)
	wantListFailure(t, "PairAt 5", list, ok)
	list, ok = impl.PairAt(m, told(), 4)
	want(t, "PairAt 4", ok && len(list) == 9, true)
	list, ok = impl.PairAt(m, told(), 0)
	want(t, "PairAt 0", ok && len(list) == 9, true)
	list, ok = impl.HiddenAt(m, told(), 0)
	want(t, "HiddenAt 0", ok && len(list) == 3, true)
}

func TestHiddenChanceOfOtherStatesFails(t *testing.T) {
	for _, hidden := range [][]int64{nil, {0}, {0, 1}, {0, 1, 2, 0}, {0, 1, 3}, {-1, 0, 0}, {3, 0, 0}, {0, math.MaxInt64, 0}, {0, 0, math.MinInt64}} {
		x, ok := impl.HiddenChance(uneven(), []int64{0, 1}, hidden)
		wantFailure(t, fmt.Sprint("HiddenChance ", hidden), x, ok)
	}
	// 0.3 times 0.05 times 0.7 times 0.56 times 0.4, from left to right.
	x, ok := impl.HiddenChance(uneven(), []int64{0, 1}, []int64{1, 2, 2})
	expected := float32(.3)
	for _, by := range []float32{.05, .7, .56, .4} {
		expected *= by
	}
	wantOne(t, "HiddenChance", x, ok, expected)
}
