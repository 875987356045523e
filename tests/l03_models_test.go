package tests

import (
	"fmt"
	"math"
	"slices"
	"testing"

	"loop.example/g01357/impl"
)

// above returns the number which is so many least steps greater than 1, and below that which is so many less than 1.
func above(steps int) float32 { return 1 + float32(steps)*0x1p-23 }
func below(steps int) float32 { return 1 - float32(steps)*0x1p-24 }

// The sum of a row is at most 8388 steps above 1, and at most 16777 below, as 0.001 is between these and the next ones.
const (
	mostAbove = 8388
	mostBelow = 16777
)

// sumModels returns models in which just one row, of each kind, has some sum.
func sumModels(sum float32) map[string]impl.Model {
	first, other := min(sum, 1), max(sum-1, 0)
	return map[string]impl.Model{
		"starts":     model(2, []float32{first, other}, []float32{1, 0, 0, 1}, []float32{1, 0, 0, 1}),
		"first step": model(2, []float32{1, 0}, []float32{first, other, 0, 1}, []float32{1, 0, 0, 1}),
		"last step":  model(2, []float32{1, 0}, []float32{1, 0, first, other}, []float32{1, 0, 0, 1}),
		"first show": model(2, []float32{1, 0}, []float32{1, 0, 0, 1}, []float32{first, other, 0, 1}),
		"last show":  model(2, []float32{1, 0}, []float32{1, 0, 0, 1}, []float32{1, 0, first, other}),
	}
}

func TestValidModel(t *testing.T) {
	least, negative := number(leastSub), number(minusZero)
	valid := map[string]impl.Model{
		"uneven": uneven(), "second": second(), "seldom": seldom(), "faint": faint(), "least": evenModel(1, 1), "most": evenModel(5, 4), "ring": sureRing(4),
		"subnormal":   model(2, []float32{1, least}, []float32{1, least, least, 1}, []float32{1, least, least, 1}),
		"minus zeros": model(2, []float32{1, negative}, []float32{1, negative, negative, 1}, []float32{1, negative, negative, 1}),
		"one letter":  model(1, []float32{1}, []float32{1}, []float32{1}),
	}
	wantValid(t, "ValidModel", impl.ValidModel, valid, invalidModels())
}

func TestValidModelAtTheBoundOfSums(t *testing.T) {
	wantValid(t, "ValidModel just above", impl.ValidModel, sumModels(above(mostAbove)), sumModels(above(mostAbove+1)))
	wantValid(t, "ValidModel just below", impl.ValidModel, sumModels(below(mostBelow)), sumModels(below(mostBelow+1)))
}

func TestValidModelAddsInOrder(t *testing.T) {
	// Quarters of a step are lost behind 1, but make one more step if they are added before it.
	row := []float32{1, above(mostAbove) - 1, 0x1p-25, 0x1p-25, 0x1p-25}
	m := evenModel(5, 2)
	m.Starts = row
	want(t, "ValidModel in order", impl.ValidModel(m), true)
	m.Starts = slices.Clone(row)
	slices.Reverse(m.Starts)
	want(t, "ValidModel in the other order", impl.ValidModel(m), false)
	m = evenModel(5, 2)
	copy(m.Steps[20:], row)
	want(t, "ValidModel with steps in order", impl.ValidModel(m), true)
	slices.Reverse(m.Steps[20:])
	want(t, "ValidModel with steps in the other order", impl.ValidModel(m), false)
}

func TestSameModel(t *testing.T) {
	zero := coins(1, 0)
	wantSameAlone(t, "SameModel", impl.SameModel, uneven(), invalidModels())
	wantSameAlone(t, "SameModel", impl.SameModel, zero, map[string]impl.Model{
		"a minus zero": coins(1, number(minusZero)), "another state": model(2, []float32{1, 0}, []float32{1}, []float32{1, 0}),
		"other states": {States: 2, Letters: 2, Starts: zero.Starts, Steps: zero.Steps, Shows: zero.Shows}, "other letters": {States: 1, Letters: 1, Starts: zero.Starts, Steps: zero.Steps, Shows: zero.Shows},
		"other starts": model(2, []float32{above(1)}, []float32{1}, []float32{1, 0}), "other steps": model(2, []float32{1}, []float32{below(1)}, []float32{1, 0}),
		"no starts": {States: 1, Letters: 2, Steps: zero.Steps, Shows: zero.Shows}, "other shows": coins(1, number(leastSub)),
	})
	none := impl.Model{Starts: []float32{}, Steps: []float32{}, Shows: []float32{}}
	want(t, "SameModel of no lists and empty ones", impl.SameModel(none, impl.Model{}), true)
	for _, bits := range notNumbers() {
		want(t, "SameModel of not-a-numbers", impl.SameModel(coins(number(bits), 0), coins(number(notNumber), 0)), true)
		want(t, "SameModel of a not-a-number and 0", impl.SameModel(coins(number(bits), 0), coins(0, 0)), false)
	}
}

func TestEvenModel(t *testing.T) {
	for states := range int64(7) {
		for letters := range int64(6) {
			got, ok := impl.EvenModel(states, letters)
			what := fmt.Sprint("EvenModel ", states, letters)
			if states < 1 || states > 5 || letters < 1 || letters > 4 {
				wantNoModel(t, what, got, ok)
				continue
			}
			one, other := 1/float32(states), 1/float32(letters)
			expected := model(letters, slices.Repeat([]float32{one}, int(states)), slices.Repeat([]float32{one}, int(states*states)), slices.Repeat([]float32{other}, int(states*letters)))
			wantModel(t, what, got, ok, expected)
		}
	}
	for _, n := range []int64{-1, math.MinInt64, math.MaxInt64} {
		got, ok := impl.EvenModel(n, 1)
		wantNoModel(t, "EvenModel of some states", got, ok)
		got, ok = impl.EvenModel(1, n)
		wantNoModel(t, "EvenModel of some letters", got, ok)
	}
}

func TestRingModel(t *testing.T) {
	got, ok := impl.RingModel(3, 2, 0.25, 0.75)
	wantModel(t, "RingModel", got, ok, model(2, []float32{1, 0, 0}, []float32{.25, .75, 0, 0, .25, .75, .75, 0, .25}, []float32{.75, .25, .25, .75, .75, .25}))
	got, ok = impl.RingModel(2, 4, 0.3, 0.1)
	wantBits(t, "Shows of RingModel", got.Shows, ok, "3dcccccd 3e999999 3e999999 3e999999 3e999999 3dcccccd 3e999999 3e999999")
	wantBits(t, "Steps of RingModel", got.Steps, ok, "3e99999a 3f333333 3f333333 3e99999a")
	got, ok = impl.RingModel(1, 2, 0.3, 1)
	wantModel(t, "RingModel of one state", got, ok, coins(1, 0))
	for stay := float32(0); stay <= 1; stay += 0x1.23p-8 {
		got, ok = impl.RingModel(1, 3, stay, 0.5)
		wantNumbers(t, "Steps of RingModel of one state", got.Steps, ok, stay+(1-stay))
	}
	got, ok = impl.RingModel(5, 4, 0, 0)
	want(t, "RingModel at the limits", ok && impl.ValidModel(got), true)
	got, ok = impl.RingModel(1, 2, number(minusZero), number(minusZero))
	wantBits(t, "Steps of RingModel with -0", got.Steps, ok, "3f800000")
	got, ok = impl.RingModel(2, 2, number(leastSub), number(greatestSub))
	wantBits(t, "Steps of RingModel with subnormal numbers", got.Steps, ok, "00000001 3f800000 3f800000 00000001")
	wantBits(t, "Shows of RingModel with subnormal numbers", got.Shows, ok, "007fffff 3f800000 3f800000 007fffff")
}

func TestRingModelWithOthersFails(t *testing.T) {
	for _, c := range [][2]int64{{0, 2}, {6, 2}, {2, 1}, {1, 1}, {2, 0}, {2, 5}, {-1, 2}, {2, -1}, {math.MaxInt64, 2}, {2, math.MinInt64}} {
		got, ok := impl.RingModel(c[0], c[1], 0.5, 0.5)
		wantNoModel(t, fmt.Sprint("RingModel ", c), got, ok)
		got, ok = impl.RingModel(c[0], c[1], 0, 1)
		wantNoModel(t, fmt.Sprint("RingModel for sure ", c), got, ok)
	}
	others := append(numbers(notNumbers()...), above(1), 2, number(0x80000001), -1, number(plusInfinity), number(minusInf))
	for _, x := range others {
		got, ok := impl.RingModel(2, 2, x, 0.5)
		wantNoModel(t, fmt.Sprint("RingModel with stay ", x), got, ok)
		// With a single state, the sum of both steps could be 1.
		got, ok = impl.RingModel(1, 2, x, 0.5)
		wantNoModel(t, fmt.Sprint("RingModel of one state with stay ", x), got, ok)
		got, ok = impl.RingModel(2, 2, 0.5, x)
		wantNoModel(t, fmt.Sprint("RingModel with show ", x), got, ok)
	}
}
