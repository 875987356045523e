package tests

import (
	"fmt"
	"math"
	"math/rand"
	"slices"
	"testing"

	"loop.example/g01357/impl"
)

// eachTwoModels calls check with many random models of equal letters.
func eachTwoModels(check func(r *rand.Rand, a, b impl.Model)) {
	eachModel(func(r *rand.Rand, m impl.Model) { check(r, m, randomModel(r, m.Letters)) })
}

// wordsOf returns all words of long letters, in order.
func wordsOf(letters int64, long int) [][]int64 {
	return slices.DeleteFunc(wordsUpTo(letters, long), func(word []int64) bool { return len(word) < long })
}

// chanceOf returns ChanceOf a word.
func chanceOf(m impl.Model, word []int64) float32 {
	x, _ := impl.ChanceOf(m, word)
	return x
}

func TestTwoModelsAreTold(t *testing.T) {
	for long, bits := range map[int64]uint32{0: 0x3f800000, 1: 0x3eb2ef0b, 5: 0x3b84ddbc, 12: 0x35dd0c90} {
		x, ok := impl.MeetChance(uneven(), second(), long)
		wantOne(t, fmt.Sprint("MeetChance ", long), x, ok, number(bits))
	}
	for long, bits := range []uint32{0, 0x3e1374bd, 0x3e5c79ce, 0x3e750ff9, 0x3e84e5f3} {
		x, ok := impl.ApartModels(uneven(), second(), int64(long))
		wantOne(t, fmt.Sprint("ApartModels ", long), x, ok, number(bits))
	}
	for long, bits := range []uint32{0, 0x3db624e3, 0x3e2cae54, 0x3e64f2f7, 0x3e931aaa} {
		x, ok := impl.MoreBits(uneven(), second(), int64(long))
		wantOne(t, fmt.Sprint("MoreBits ", long), x, ok, number(bits))
	}
	got, ok := impl.JoinStates(uneven(), 0, 1)
	wantModelBits(t, "JoinStates 0 1", got, ok, "2 3 | 3f000000 3f000000 | 3f038872 3ef8ef1c 3f19999a 3ecccccd | 3ecb7b72 3e5d9149 3ec5bbe9 3ea8f5c3 3f0f5c29 3de147ae")
	got, ok = impl.JoinStates(uneven(), 1, 2)
	wantModelBits(t, "JoinStates 1 2", got, ok, "2 3 | 3e4ccccd 3f4ccccd | 3dcccccd 3f666667 3ec1098b 3f1f7b3c | 3f333333 3dcccccd 3e4ccccd 3e694dec 3ef77d39 3e93dbd3")
}

func TestMeetChance(t *testing.T) {
	eachTwoModels(func(r *rand.Rand, a, b impl.Model) {
		long := r.Intn(4)
		expected := 0.0
		for _, word := range wordsOf(a.Letters, long) {
			expected += float64(chanceOf(a, word)) * float64(chanceOf(b, word))
		}
		x, ok := impl.MeetChance(a, b, int64(long))
		wantNear(t, "MeetChance", x, ok, expected)
	})
	x, ok := impl.MeetChance(sureRing(3), sureRing(3), 12)
	wantOne(t, "MeetChance of a ring and itself", x, ok, 1)
	x, ok = impl.MeetChance(evenModel(5, 4), evenModel(5, 4), 12)
	wantNear(t, "MeetChance of even models", x*0x1p24, ok, 1)
	x, ok = impl.MeetChance(coins(1, 0), coins(0, 1), 1)
	wantOne(t, "MeetChance of models with no word in common", x, ok, 0)
	x, ok = impl.MeetChance(coins(1, 0), coins(0, 1), 0)
	wantOne(t, "MeetChance of models with no letters", x, ok, 1)
}

func TestApartModels(t *testing.T) {
	eachTwoModels(func(r *rand.Rand, a, b impl.Model) {
		long := r.Intn(5)
		all := float32(0)
		for _, word := range wordsOf(a.Letters, long) {
			all += float32(math.Abs(float64(chanceOf(a, word) - chanceOf(b, word))))
		}
		x, ok := impl.ApartModels(a, b, int64(long))
		wantOne(t, "ApartModels", x, ok, all/2)
		x, ok = impl.ApartModels(a, a, int64(long))
		wantOne(t, "ApartModels of a model and itself", x, ok, 0)
	})
	for long := range int64(4) {
		x, ok := impl.ApartModels(coins(1, 0), coins(0, 1), long+1)
		wantOne(t, "ApartModels of models with no word in common", x, ok, 1)
	}
}

func TestMoreBits(t *testing.T) {
	failed := 0
	eachTwoModels(func(r *rand.Rand, a, b impl.Model) {
		long := r.Intn(5)
		all, possible := float32(0), true
		for _, word := range wordsOf(a.Letters, long) {
			one, other := chanceOf(a, word), chanceOf(b, word)
			if one > 0 {
				possible = possible && other > 0
				product := float32(one * (impl.LogNumber(one) - impl.LogNumber(other)))
				all += product / 0.6931472
			}
		}
		x, ok := impl.MoreBits(a, b, int64(long))
		if !possible {
			failed++
			wantFailure(t, "MoreBits of a word with the chance 0", x, ok)
			return
		}
		wantOne(t, "MoreBits", x, ok, all)
		if x < -0.0001 {
			t.Errorf("MoreBits: got %v, want at least 0", x)
		}
		x, ok = impl.MoreBits(a, a, int64(long))
		wantOne(t, "MoreBits of a model and itself", x, ok, 0)
	})
	if failed == 0 {
		t.Error("no word had the chance 0")
	}
	x, ok := impl.MoreBits(coins(1, 0), coins(.25, .75), 4)
	wantNear(t, "MoreBits of a word with the chance 0 in a alone", x, ok, 8)
	x, ok = impl.MoreBits(coins(.25, .75), coins(1, 0), 0)
	wantOne(t, "MoreBits of no letters", x, ok, 0)
}

func TestTwoModelsOfOthersFail(t *testing.T) {
	wantNone := func(what string, a, b impl.Model, long, far int64) {
		t.Helper()
		x, ok := impl.MeetChance(a, b, far)
		wantFailure(t, "MeetChance "+what, x, ok)
		x, ok = impl.ApartModels(a, b, long)
		wantFailure(t, "ApartModels "+what, x, ok)
		x, ok = impl.MoreBits(a, b, long)
		wantFailure(t, "MoreBits "+what, x, ok)
	}
	for what, m := range invalidModels() {
		wantNone("with "+what, m, uneven(), 1, 1)
		wantNone("with the latter "+what, uneven(), m, 1, 1)
		wantNone("with twice "+what, m, m, 0, 0)
	}
	wantNone("of other letters", evenModel(2, 2), evenModel(2, 3), 1, 1)
	for _, long := range []int64{-1, math.MaxInt64, math.MinInt64} {
		wantNone(fmt.Sprint("of length ", long), uneven(), second(), long, long)
	}
	wantNone("of a length past the limit", uneven(), second(), 5, 13)
}

// knownJoined returns, as 64-bit numbers, the Steps and then the Shows of each state of m in which k is one with i, and
// at last the Starts.
func knownJoined(m impl.Model, rest []float32, i, k int64) [][]float64 {
	to := func(state int64) int64 {
		switch {
		case state == k:
			return i
		case state > k:
			return state - 1
		}
		return state
	}
	rows := make([][]float64, m.States)
	for row := range rows {
		rows[row] = make([]float64, m.States+m.Letters)
	}
	for from := range m.States {
		weight := 1.0
		if from == i || from == k {
			weight = float64(rest[from]) / (float64(rest[i]) + float64(rest[k]))
		}
		for state := range m.States {
			rows[to(from)][to(state)] += weight * float64(m.Steps[from*m.States+state])
		}
		for letter := range m.Letters {
			rows[to(from)][m.States-1+letter] += weight * float64(m.Shows[from*m.Letters+letter])
		}
		rows[m.States-1][to(from)] += float64(m.Starts[from])
	}
	return rows
}

func TestJoinStates(t *testing.T) {
	joined := 0
	eachModel(func(r *rand.Rand, m impl.Model) {
		i, k := r.Int63n(5), r.Int63n(5)
		got, ok := impl.JoinStates(m, i, k)
		rest, _, rests := impl.RestOfModel(m, 0.0001, 200)
		if !rests || i >= k || k >= m.States || !(rest[i]+rest[k] > 0) {
			wantNoModel(t, fmt.Sprint("JoinStates ", i, k), got, ok)
			return
		}
		if !ok {
			return
		}
		joined++
		want(t, "JoinStates is valid", impl.ValidModel(got), true)
		want(t, "the States of JoinStates", got.States, m.States-1)
		expected := knownJoined(m, rest, i, k)
		for row := range got.States {
			for state := range got.States {
				wantNear(t, "a Step of JoinStates", got.Steps[row*got.States+state], ok, expected[row][state])
			}
			for letter := range got.Letters {
				wantNear(t, "a Show of JoinStates", got.Shows[row*got.Letters+letter], ok, expected[row][got.States+letter])
			}
			wantNear(t, "a Start of JoinStates", got.Starts[row], ok, expected[got.States][row])
		}
	})
	if joined < 30 {
		t.Errorf("just %d models had joined states", joined)
	}
}

func TestJoinStatesOfOthersFails(t *testing.T) {
	for what, m := range invalidModels() {
		got, ok := impl.JoinStates(m, 0, 1)
		wantNoModel(t, "JoinStates with "+what, got, ok)
	}
	for _, c := range [][2]int64{{0, 0}, {1, 0}, {2, 2}, {0, 3}, {-1, 0}, {-1, 1}, {2, 3}, {3, 4}, {math.MinInt64, 0}, {0, math.MaxInt64}, {math.MaxInt64, math.MinInt64}, {math.MinInt64, math.MinInt64}} {
		got, ok := impl.JoinStates(uneven(), c[0], c[1])
		wantNoModel(t, fmt.Sprint("JoinStates ", c), got, ok)
	}
	got, ok := impl.JoinStates(evenModel(1, 1), 0, 0)
	wantNoModel(t, "JoinStates of one state", got, ok)
	// Without the state 1, this one would still be valid.
	got, ok = impl.JoinStates(model(1, []float32{1, 0}, []float32{.9995, .0005, 1, 0}, []float32{1, 1}), 1, 1)
	wantNoModel(t, "JoinStates of a state and itself", got, ok)
	// The states 0 and 1 are left and never come again.
	left := model(1, []float32{1, 0, 0}, []float32{0, 0, 1, 0, 0, 1, 0, 0, 1}, []float32{1, 1, 1})
	got, ok = impl.JoinStates(left, 0, 1)
	wantNoModel(t, "JoinStates of states that never come again", got, ok)
	got, ok = impl.JoinStates(left, 1, 2)
	wantModel(t, "JoinStates of a state that comes again", got, ok, model(1, []float32{1, 0}, []float32{0, 1, 0, 1}, []float32{1, 1}))
	never := model(1, []float32{1, 0, 0, 0}, []float32{0, 1, 0, 0, 1, 0, 0, 0, 0, 1, 0, 0, 0, 1, 0, 0}, []float32{1, 1, 1, 1})
	got, ok = impl.JoinStates(never, 0, 1)
	wantNoModel(t, "JoinStates of a model that never rests", got, ok)
}

// slow returns a model that nearly changes between its middle state and the others: the less it stays, the later it rests.
func slow(stay float32) impl.Model {
	return model(1, []float32{1, 0, 0}, []float32{stay, 1 - stay, 0, .5, 0, .5, 0, 1 - stay, stay}, []float32{1, 1, 1})
}

func TestJoinStatesRestsWithin200Steps(t *testing.T) {
	for steps, m := range map[int64]impl.Model{200: slow(2592 * 0x1p-16), 201: slow(2591 * 0x1p-16)} {
		_, count, ok := impl.RestOfModel(m, 0.0001, 256)
		want(t, "RestOfModel succeeds", ok, true)
		want(t, "the steps of RestOfModel", count, steps)
	}
	got, ok := impl.JoinStates(slow(2592*0x1p-16), 0, 2)
	want(t, "JoinStates behind 200 steps", ok && impl.ValidModel(got), true)
	got, ok = impl.JoinStates(slow(2591*0x1p-16), 0, 2)
	wantNoModel(t, "JoinStates behind 201 steps", got, ok)
}

func TestJoinedChancesAboveOneFail(t *testing.T) {
	steps, shows := []float32{.25, .25, .5, .25, .25, .5, .25, .25, .5}, []float32{1, 1, 1}
	got, ok := impl.JoinStates(model(1, []float32{.5, .5, 0}, steps, shows), 0, 1)
	wantModel(t, "JoinStates with the sum 1", got, ok, model(1, []float32{1, 0}, []float32{.5, .5, .5, .5}, []float32{1, 1}))
	got, ok = impl.JoinStates(model(1, []float32{.5, .5 + 0x1p-20, 0}, steps, shows), 0, 1)
	wantNoModel(t, "JoinStates with a Start above 1", got, ok)
	got, ok = impl.JoinStates(model(1, []float32{.5, .5, 0}, []float32{.25, .25, .5, .25, .25, .5, .5, .5 + 0x1p-20, 0}, shows), 0, 1)
	wantNoModel(t, "JoinStates with a Step above 1", got, ok)
	got, ok = impl.JoinStates(model(1, []float32{.5, .5 + 0x1p-20, 0}, steps, shows), 1, 2)
	want(t, "JoinStates with a sum above 1 that is not joined", ok && impl.ValidModel(got), true)
}
