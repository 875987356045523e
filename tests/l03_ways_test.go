package tests

import (
	"fmt"
	"math"
	"math/rand"
	"slices"
	"testing"

	"loop.example/g01357/impl"
)

// wantAllWays checks the sum of the weights of all ways.
func wantAllWays(t *testing.T, what string, steps, starts, ends []float32, expected float32) {
	t.Helper()
	x, ok := impl.AllWords(steps, starts, ends)
	wantOne(t, "AllWords "+what, x, ok, expected)
}

func wantNoWays(t *testing.T, what string, steps, starts, ends []float32) {
	t.Helper()
	x, ok := impl.AllWords(steps, starts, ends)
	wantFailure(t, "AllWords "+what, x, ok)
}

// knownWays returns the sum of the weights of all ways of at most 400 steps, as a 64-bit number.
func knownWays(steps, starts, ends []float32) float64 {
	all, row := 0.0, make([]float64, len(starts))
	for i, x := range starts {
		row[i] = float64(x)
	}
	for range 400 {
		next := make([]float64, len(row))
		for i, x := range row {
			all += x * float64(ends[i])
			for k := range row {
				next[k] += x * float64(steps[i*len(row)+k])
			}
		}
		row = next
	}
	return all
}

// signed returns so many numbers from -most to most.
func signed(r *rand.Rand, count int, most float32) []float32 {
	list := make([]float32, count)
	for i := range list {
		list[i] = (2*r.Float32() - 1) * most
	}
	return list
}

func TestAllWordsAreThoseOfAllWays(t *testing.T) {
	r := rand.New(rand.NewSource(8))
	for range 500 {
		size := 1 + r.Intn(5)
		steps, starts, ends := signed(r, size*size, 0.9/float32(size)), signed(r, size, 1), signed(r, size, 1)
		x, ok := impl.AllWords(steps, starts, ends)
		wantNear(t, fmt.Sprint("AllWords ", steps, starts, ends), x, ok, knownWays(steps, starts, ends))
	}
}

func TestAllWordsAreTold(t *testing.T) {
	wantAllWays(t, "of the example", []float32{.5}, []float32{1}, []float32{1}, 2)
	wantAllWays(t, "with another start and end", []float32{.75}, []float32{.5}, []float32{-3}, -6)
	wantAllWays(t, "with steps that weigh 3", []float32{3}, []float32{1}, []float32{1}, -.5)
	wantAllWays(t, "of no ends", []float32{.5, .25, 0, .5}, []float32{1, 0}, []float32{0, 0}, 0)
	wantAllWays(t, "of one step", []float32{0, 1, 0, 0}, []float32{1, 0}, []float32{0, 1}, 1)
	// Another program computed this one, in which a 0 in the middle changes places.
	steps := []float32{1, .3, -.7, .2, .6, .9, .35, .15, 1.1}
	wantAllWays(t, "of 3 states", steps, []float32{.2, .7, -1.3}, []float32{.4, -.6, .9}, number(0xbfba559c))
	// In this one, the order in which products are taken from a right side changes the last bits.
	steps = []float32{-.3, -.7, -.7, -1.9, -1.6, -.3, .6, .8, -.5, -1.7, -1.8, -.9, -.2, .3, 1.3, 1.6, -1.2, -1.5, .3, -1.2, .8, .1, 1.3, 1.7, -1.2}
	wantAllWays(t, "of 5 states", steps, []float32{.9, -.8, -.9, .6, .2}, []float32{0, -.8, -.9, -.7, .6}, number(0x3f56c87d))
	// The numbers of the first column are as far from 0: if the row 1 were taken first, the last bit would be another one.
	wantAllWays(t, "of equal numbers", []float32{.5, -.4, .5, -.6}, []float32{1, .8}, []float32{.8, 1}, number(0x3fcccccd))
	// With ends of the least number, its half is rounded to 0, and twice it is not.
	least := number(leastSub)
	wantAllWays(t, "of the least end", []float32{.5}, []float32{1}, []float32{least}, number(2))
	wantAllWays(t, "of the least start", []float32{-1}, []float32{least}, []float32{1}, 0)
	wantAllWays(t, "of the greatest end", []float32{0}, []float32{1}, []float32{number(greatest)}, number(greatest))
}

func TestAllWordsTakesTheGreatestMiddle(t *testing.T) {
	// With the least number in the middle, the quotients would be too great for the right sides.
	small := float32(0x1p-30)
	x, ok := impl.AllWords([]float32{1 - 0x1p-24, -1, -1, -1}, []float32{1, 0}, []float32{1, 2})
	// The rows are 2^-24 1 | 1 and 1 2 | 2; x is nearly 0 and 1 then.
	wantNear(t, "AllWords with a small number in the middle", x, ok, 0)
	x, ok = impl.AllWords([]float32{1, -1, -small, 0}, []float32{1, 1}, []float32{1, small})
	// The rows are 0 1 | 1 and 2^-30 1 | 2^-30.
	wantNear(t, "AllWords with none in the middle", x*small, ok, float64(small)-1+float64(small))
}

func TestAllWordsWithoutASumFails(t *testing.T) {
	great := number(greatest)
	wantNoWays(t, "of a step that weighs 1", []float32{1}, []float32{1}, []float32{1})
	wantNoWays(t, "of no start and a step that weighs 1", []float32{1}, []float32{0}, []float32{0})
	wantNoWays(t, "of equal rows", []float32{0, -1, -1, 0}, []float32{1, 1}, []float32{1, 1})
	wantNoWays(t, "of a last row of nothing", []float32{0, 0, 0, 1}, []float32{1, 1}, []float32{1, 1})
	wantNoWays(t, "of a sum too great", []float32{.5}, []float32{1}, []float32{great})
	wantNoWays(t, "of a product too great", []float32{0}, []float32{2}, []float32{great})
	wantNoWays(t, "of a quotient too great", []float32{1 - 0x1p-24}, []float32{1}, []float32{1e38})
	wantNoWays(t, "of ways too great that are no starts", []float32{.5}, []float32{0}, []float32{great})
	wantNoWays(t, "of steps too great", []float32{great, great, great, great}, []float32{1, 1}, []float32{great, -great})
}

func TestAllWordsAtLimits(t *testing.T) {
	ones := func(count int) []float32 { return slices.Repeat([]float32{1}, count) }
	for size := range 8 {
		steps := make([]float32, size*size)
		if size == 0 || size > 5 {
			wantNoWays(t, fmt.Sprint("of ", size, " states"), steps, ones(size), ones(size))
			continue
		}
		wantAllWays(t, fmt.Sprint("of ", size, " states"), steps, ones(size), ones(size), float32(size))
		wantNoWays(t, "of a step less", steps[1:], ones(size), ones(size))
		wantNoWays(t, "of a step more", append(steps, 0), ones(size), ones(size))
		wantNoWays(t, "of a start less", steps, ones(size-1), ones(size))
		wantNoWays(t, "of a start more", steps, ones(size+1), ones(size))
		wantNoWays(t, "of an end less", steps, ones(size), ones(size-1))
		wantNoWays(t, "of an end more", steps, ones(size), ones(size+1))
	}
	wantNoWays(t, "of nothing", nil, nil, nil)
	wantNoWays(t, "of many states", make([]float32, 10000), ones(100), ones(100))
	for _, x := range append(numbers(notNumbers()...), float32(math.Inf(1)), float32(math.Inf(-1))) {
		wantNoWays(t, fmt.Sprint("of the step ", x), []float32{0, 0, 0, x}, ones(2), ones(2))
		wantNoWays(t, fmt.Sprint("of the start ", x), make([]float32, 4), []float32{1, x}, ones(2))
		wantNoWays(t, fmt.Sprint("of the end ", x), make([]float32, 4), ones(2), []float32{1, x})
	}
}
