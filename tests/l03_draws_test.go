package tests

import (
	"fmt"
	"math"
	"math/rand"
	"slices"
	"testing"

	"loop.example/g01357/impl"
)

// Seeds for which the next one is a number: 0, 255, 256, a half of all seeds, one less than this, 255 more, and the
// greatest one.
const (
	seedForNone     = 634785765
	seedFor255      = 122584096
	seedFor256      = 103732453
	seedForHalf     = 2782269413
	seedBelowHalf   = 2801121056
	seedAboveHalf   = 2270067744
	seedForGreatest = 653637408
	greatestSeed    = 4294967295
)

// stepped returns what is left of a row behind a step.
func stepped(m impl.Model, row []float32) []float32 {
	next := make([]float32, m.States)
	for i, x := range row {
		for k := range m.States {
			next[k] += float32(x * m.Steps[int64(i)*m.States+k])
		}
	}
	return next
}

// farthest returns the greatest absolute value of what a number becomes more.
func farthest(row, next []float32) float32 {
	most := float32(0)
	for i, x := range next {
		most = max(most, x-row[i], row[i]-x)
	}
	return most
}

func TestRestOfModel(t *testing.T) {
	eachModel(func(r *rand.Rand, m impl.Model) {
		near, most := []float32{0, 0.1, 0.001, 0.0000001}[r.Intn(4)], 1+r.Int63n(60)
		row, steps := slices.Repeat([]float32{1 / float32(m.States)}, int(m.States)), int64(0)
		for rests := false; !rests && steps <= most; steps++ {
			next := stepped(m, row)
			rests = farthest(row, next) <= near
			row = next
		}
		got, count, ok := impl.RestOfModel(m, near, most)
		if steps > most {
			wantListFailure(t, "RestOfModel that never rests", got, ok)
			want(t, "the steps of RestOfModel that never rests", count, 0)
			return
		}
		wantNumbers(t, "RestOfModel", got, ok, row...)
		want(t, "the steps of RestOfModel", count, steps)
	})
}

func TestRestOfModelAtLimits(t *testing.T) {
	for _, states := range []int64{1, 2, 4, 5} {
		got, count, ok := impl.RestOfModel(evenModel(states, 1), 0.000001, 1)
		want(t, "RestOfModel of an even model", ok && len(got) == int(states), true)
		want(t, "the steps of RestOfModel of an even model", count, 1)
	}
	_, count, ok := impl.RestOfModel(uneven(), 0.00001, 11)
	want(t, "RestOfModel of 11 steps", ok && count == 11, true)
	list, count, ok := impl.RestOfModel(uneven(), 0.00001, 10)
	wantListFailure(t, "RestOfModel of 10 steps", list, ok)
	want(t, "the steps of RestOfModel of 10 steps", count, 0)
	// Three quarters and a quarter change places without end, so that a number becomes more by a half each time.
	m := model(1, []float32{1, 0, 0, 0}, []float32{0, 1, 0, 0, 1, 0, 0, 0, 0, 1, 0, 0, 0, 1, 0, 0}, []float32{1, 1, 1, 1})
	list, _, ok = impl.RestOfModel(m, math.Nextafter32(.5, 0), 256)
	wantListFailure(t, "RestOfModel of a model that never rests", list, ok)
	list, count, ok = impl.RestOfModel(m, .5, 256)
	wantNumbers(t, "RestOfModel of a model that nearly rests", list, ok, .25, .75, 0, 0)
	want(t, "the steps of RestOfModel of a model that nearly rests", count, 1)
	list, count, ok = impl.RestOfModel(sureRing(2), number(minusZero), 256)
	wantNumbers(t, "RestOfModel of a ring", list, ok, .5, .5)
	want(t, "the steps of RestOfModel of a ring", count, 1)
	list, _, ok = impl.RestOfModel(m, number(greatest), 1)
	wantNumbers(t, "RestOfModel with the greatest number", list, ok, .25, .75, 0, 0)
}

func TestRestOfOthersFails(t *testing.T) {
	for what, m := range invalidModels() {
		list, count, ok := impl.RestOfModel(m, 1, 5)
		wantListFailure(t, "RestOfModel with "+what, list, ok)
		want(t, "the steps of RestOfModel with "+what, count, 0)
	}
	for _, most := range []int64{0, -1, 257, math.MaxInt64, math.MinInt64} {
		list, _, ok := impl.RestOfModel(sureRing(2), 0, most)
		wantListFailure(t, fmt.Sprint("RestOfModel with most ", most), list, ok)
	}
	for _, near := range append(numbers(notNumbers()...), -1, number(0x80000001), number(plusInfinity), number(minusInf)) {
		list, _, ok := impl.RestOfModel(sureRing(2), near, 5)
		wantListFailure(t, fmt.Sprint("RestOfModel with near ", near), list, ok)
	}
}

// wantDrawn checks a word that is drawn, its states, and the seed then.
func wantDrawn(t *testing.T, m impl.Model, seed, long int64, word, hidden []int64, after int64) {
	t.Helper()
	what := fmt.Sprint("DrawnWord ", seed, " ", long)
	letters, states, next, ok := impl.DrawnWord(m, seed, long)
	wantList(t, what, letters, ok, word...)
	wantList(t, "the states of "+what, states, ok, hidden...)
	want(t, "the seed of "+what, next, after)
}

func TestDrawnWord(t *testing.T) {
	wantDrawn(t, uneven(), 2026, 12, []int64{0, 0, 2, 1, 2, 0, 0, 2, 0, 0, 2, 2}, []int64{0, 0, 1, 2, 0, 0, 2, 1, 2, 0, 1, 1, 2}, 3694532761)
	wantDrawn(t, second(), greatestSeed, 7, []int64{1, 1, 2, 2, 1, 0, 2}, []int64{0, 0, 1, 1, 1, 1, 1, 1}, 3343299440)
	wantDrawn(t, sureRing(3), 0, 0, nil, []int64{0}, 1013904223)
	wantDrawn(t, evenModel(1, 1), 0, 1, []int64{0}, []int64{0, 0}, 3519870697)
}

func TestSharesOfDraws(t *testing.T) {
	halves := model(1, []float32{.5, .5}, []float32{1, 0, 0, 1}, []float32{1, 1})
	first := model(1, []float32{0, 1}, []float32{1, 0, 0, 1}, []float32{1, 1})
	// The greatest share is 1 less 2^-24, and is not less than this sum.
	nearly := model(1, []float32{.25, below(1) - .25, 0, 0}, []float32{1, 0, 0, 0, 1, 0, 0, 0, 1, 0, 0, 0, 1, 0, 0, 0}, []float32{1, 1, 1, 1})
	// The last state has the chance 0, and is not drawn where the sum is less than the share.
	less := model(1, []float32{.75, 0, .2495, 0}, nearly.Steps, nearly.Shows)
	for _, c := range []struct {
		m                  impl.Model
		seed, state, after int64
	}{
		{halves, seedForNone, 0, 0}, {halves, seedBelowHalf, 0, greatestSeed / 2}, {halves, seedForHalf, 1, greatestSeed/2 + 1}, {halves, seedAboveHalf, 1, greatestSeed/2 + 256}, {halves, seedForGreatest, 1, greatestSeed},
		{first, seedForNone, 1, 0}, {first, seedForGreatest, 1, greatestSeed}, {nearly, seedForGreatest, 1, greatestSeed}, {less, seedForGreatest, 2, greatestSeed}, {less, seedForHalf, 0, greatestSeed/2 + 1},
	} {
		wantDrawn(t, c.m, c.seed, 0, nil, []int64{c.state}, c.after)
	}
	// 255 more in the seed do not count, 256 do.
	least := model(1, []float32{0x1p-24, below(1)}, []float32{1, 0, 0, 1}, []float32{1, 1})
	wantDrawn(t, least, seedFor255, 0, nil, []int64{0}, 255)
	wantDrawn(t, least, seedFor256, 0, nil, []int64{1}, 256)
	wantDrawn(t, model(1, []float32{.5 + 0x1p-24, .5 - 0x1p-24}, halves.Steps, halves.Shows), seedAboveHalf, 0, nil, []int64{0}, greatestSeed/2+256)
}

func TestDrawnWordsAreShown(t *testing.T) {
	eachModel(func(r *rand.Rand, m impl.Model) {
		seed := r.Int63n(greatestSeed + 1)
		for long := range int64(13) {
			word, hidden, next, ok := impl.DrawnWord(m, seed, long)
			if !ok || !impl.IsWord(word, m.Letters) || len(word) != int(long) || next < 0 || next > greatestSeed || !(wayChance(m, word, hidden) > 0) {
				t.Fatalf("DrawnWord %d %d: %v, %v, %d, %v", seed, long, word, hidden, next, ok)
			}
			seed = next
		}
	})
	counts, seed := map[string]float64{}, int64(7)
	for range 20000 {
		word, _, next, _ := impl.DrawnWord(second(), seed, 2)
		counts[fmt.Sprint(word)]++
		seed = next
	}
	for _, word := range wordsUpTo(3, 2)[4:] {
		if share := counts[fmt.Sprint(word)] / 20000; math.Abs(share-knownChance(second(), word)) > 0.01 {
			t.Errorf("%v was drawn with the share %v, its chance is %v", word, share, knownChance(second(), word))
		}
	}
}

func TestDrawsOfOthersFail(t *testing.T) {
	wantNone := func(what string, m impl.Model, seed, long int64) {
		t.Helper()
		word, hidden, next, ok := impl.DrawnWord(m, seed, long)
		wantListFailure(t, what, word, ok)
		wantListFailure(t, what, hidden, ok)
		want(t, what, next, 0)
	}
	for what, m := range invalidModels() {
		wantNone("DrawnWord with "+what, m, 1, 1)
	}
	for _, seed := range []int64{-1, greatestSeed + 1, math.MaxInt64, math.MinInt64} {
		wantNone(fmt.Sprint("DrawnWord with the seed ", seed), uneven(), seed, 1)
	}
	for _, long := range []int64{-1, 13, math.MaxInt64, math.MinInt64} {
		wantNone(fmt.Sprint("DrawnWord of length ", long), uneven(), 1, long)
	}
}
