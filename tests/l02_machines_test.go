package tests

import (
	"fmt"
	"math"
	"math/rand"
	"slices"
	"testing"

	"loop.example/g01357/impl"
)

func TestLimitsOfChapter2(t *testing.T) {
	want(t, "limits", [6]int64{impl.MaxStates, impl.MaxLetters, impl.MaxArcs, impl.MaxCost, impl.MaxWord, impl.MaxPlain}, [6]int64{16, 4, 128, 1000, 12, 64})
}

// validMachines are machines at all limits.
func validMachines() map[string]impl.Machine {
	return map[string]impl.Machine{
		"the example":     one(),
		"one state":       machine(1, []int64{-1}, []int64{-1}),
		"16 states":       machine(4, costs(1000, 16), costs(0, 16)),
		"128 arcs":        manyArcs(2, 128),
		"equal arcs":      machine(1, []int64{0}, []int64{0}, [4]int64{0, 0, 0, 5}, [4]int64{0, 0, 0, 5}),
		"arcs at limits":  machine(2, costs(-1, 16), costs(-1, 16), [4]int64{15, 15, 1, 1000}, [4]int64{0, 0, -1, 0}),
		"costs at limits": machine(1, []int64{-1, 1000}, []int64{1000, -1}),
	}
}

// invalidMachines are machines just past a limit, and others.
func invalidMachines() map[string]impl.Machine {
	all := map[string]impl.Machine{
		"no machine": {}, "17 states": machine(1, costs(0, 17), costs(0, 17)), "129 arcs": manyArcs(2, 129),
		"no starts": machine(1, nil, []int64{0}), "few ends": machine(1, []int64{0, 0}, []int64{0}), "many ends": machine(1, []int64{0}, []int64{0, 0}),
	}
	for _, n := range []int64{0, -1, 3, 17, math.MinInt64, math.MaxInt64} {
		m := one()
		m.States = n
		all[fmt.Sprint(n, " states told")] = m
	}
	for _, n := range []int64{0, -1, 5, math.MinInt64, math.MaxInt64} {
		m := one()
		m.Letters = n
		all[fmt.Sprint(n, " letters")] = m
	}
	for _, arc := range [][4]int64{
		{-1, 0, 0, 0}, {2, 0, 0, 0}, {0, -1, 0, 0}, {0, 2, 0, 0}, {0, 0, -2, 0}, {0, 0, 1, 0}, {0, 0, 0, -1}, {0, 0, 0, 1001},
		{math.MinInt64, 0, 0, 0}, {0, math.MaxInt64, 0, 0}, {0, 0, math.MinInt64, 0}, {0, 0, 0, math.MaxInt64},
	} {
		all[fmt.Sprint("the arc ", arc)] = machine(1, []int64{0, -1}, []int64{-1, 0}, [4]int64{0, 1, 0, 3}, arc)
	}
	for _, cost := range []int64{-2, 1001, math.MinInt64, math.MaxInt64} {
		all[fmt.Sprint("the start ", cost)] = machine(1, []int64{0, cost}, []int64{0, 0})
		all[fmt.Sprint("the end ", cost)] = machine(1, []int64{0, 0}, []int64{0, cost})
	}
	return all
}

func TestValidMachine(t *testing.T) {
	wantValid(t, "ValidMachine", impl.ValidMachine, validMachines(), invalidMachines())
}

func TestSameMachine(t *testing.T) {
	wantSameAlone(t, "SameMachine", impl.SameMachine, one(), invalidMachines())
	full := machine(1, []int64{}, []int64{})
	full.Arcs = []impl.Arc{}
	want(t, "SameMachine of no lists and empty ones", impl.SameMachine(full, impl.Machine{Letters: 1}), true)
	of := func() impl.Machine {
		return machine(2, []int64{0, 1}, []int64{2, 3}, [4]int64{0, 1, 0, 3}, [4]int64{1, 0, 1, 4})
	}
	two := of()
	want(t, "SameMachine of equal machines", impl.SameMachine(two, of()), true)
	for i := range 8 {
		other := of()
		arc := &other.Arcs[1]
		*[]*int64{&other.States, &other.Letters, &arc.From, &arc.To, &arc.Letter, &arc.Cost, &other.Starts[1], &other.Ends[1]}[i]++
		want(t, fmt.Sprint("SameMachine of machines with another part ", i), impl.SameMachine(two, other), false)
	}
	turned := machine(2, []int64{0, 1}, []int64{2, 3}, [4]int64{1, 0, 1, 4}, [4]int64{0, 1, 0, 3})
	want(t, "SameMachine of machines with arcs in another order", impl.SameMachine(two, turned), false)
}

func TestIsWord(t *testing.T) {
	for _, letters := range []int64{1, 2, 3, 4} {
		for _, word := range [][]int64{nil, {}, {0}, {letters - 1}, make([]int64, 12)} {
			want(t, fmt.Sprint("IsWord ", word, letters), impl.IsWord(word, letters), true)
		}
		for _, word := range [][]int64{{letters}, {-1}, {0, letters}, {math.MinInt64}, {math.MaxInt64}, make([]int64, 13), make([]int64, 1000)} {
			want(t, fmt.Sprint("IsWord ", word, letters), impl.IsWord(word, letters), false)
		}
	}
	for _, letters := range []int64{0, -1, 5, math.MinInt64, math.MaxInt64} {
		want(t, fmt.Sprint("IsWord for letters ", letters), impl.IsWord(nil, letters) || impl.IsWord([]int64{0}, letters), false)
	}
}

func TestCostOf(t *testing.T) {
	wantCost(t, "the example", one(), []int64{0}, 3)
	wantCost(t, "the example", one(), []int64{0, 0}, -1)
	wantCost(t, "the example", one(), nil, -1)
	rounds := machine(2, []int64{7, 0, -1}, []int64{-1, -1, 2},
		[4]int64{0, 1, -1, 0}, [4]int64{1, 0, -1, 0}, [4]int64{1, 1, -1, 0}, [4]int64{2, 2, -1, 5}, // rounds of empty arcs
		[4]int64{0, 2, 0, 4}, [4]int64{0, 2, 0, 3}, [4]int64{1, 2, 0, 9}, [4]int64{2, 1, -1, 1}, [4]int64{1, 2, 1, 1000})
	wantCost(t, "rounds of empty arcs", rounds, []int64{0}, 5)
	wantCost(t, "rounds of empty arcs", rounds, []int64{0, 0}, 9)
	wantCost(t, "rounds of empty arcs", rounds, []int64{1}, 1002)
	wantCost(t, "rounds of empty arcs", rounds, []int64{1, 0, 1}, 1000+1+3+1+1000+2)
	wantCost(t, "rounds of empty arcs", rounds, nil, -1)
	wantCost(t, "a start that is an end", machine(1, []int64{1000}, []int64{1000}), nil, 2000)
	wantCost(t, "a machine without a start", machine(1, []int64{-1}, []int64{0}, [4]int64{0, 0, 0, 0}), []int64{0}, -1)
	wantCost(t, "a machine without an end", machine(1, []int64{0}, []int64{-1}, [4]int64{0, 0, -1, 0}), nil, -1)
	dear := machine(1, []int64{1000, -1}, []int64{-1, 1000}, [4]int64{0, 1, 0, 1000}, [4]int64{1, 0, -1, 1000})
	wantCost(t, "the dearest arcs", dear, make([]int64, 12), 1000*(12+11+2))
}

func TestCostOfFails(t *testing.T) {
	for _, word := range [][]int64{{1}, {-1}, {0, 1}, make([]int64, 13)} {
		cost, ok := impl.CostOf(one(), word)
		wantFailure(t, fmt.Sprint("CostOf ", word), cost, ok)
	}
}

// TestInvalidMachinesFail holds for all functions that receive one machine.
func TestInvalidMachinesFail(t *testing.T) {
	for what, m := range invalidMachines() {
		cost, ok := impl.CostOf(m, nil)
		wantFailure(t, "CostOf "+what, cost, ok)
		for name, f := range map[string]func(impl.Machine) (impl.Machine, bool){
			"RepeatOf": impl.RepeatOf, "BackOf": impl.BackOf, "TidyOf": impl.TidyOf, "TrimOf": impl.TrimOf, "WithoutEmpty": impl.WithoutEmpty,
		} {
			got, ok := f(m)
			wantNoMachine(t, name+" "+what, got, ok)
		}
		list, ok := impl.EndCosts(m)
		wantListFailure(t, "EndCosts "+what, list, ok)
		word, cost, ok := impl.BestWord(m)
		wantListFailure(t, "BestWord "+what, word, ok)
		want(t, "the cost of BestWord "+what, cost, 0)
		words, list, ok := impl.BestWords(m, 1, 1)
		wantListFailure(t, "BestWords "+what, words, ok)
		wantListFailure(t, "the costs of BestWords "+what, list, ok)
		p, ok := impl.PlainOf(m)
		wantNoPlain(t, "PlainOf "+what, p, ok)
		list, ok = impl.WordsShared(m, nil, 1)
		wantListFailure(t, "WordsShared "+what, list, ok)
	}
}

// machinePairs are the functions that receive two machines.
func machinePairs() map[string]func(a, b impl.Machine) (impl.Machine, bool) {
	return map[string]func(a, b impl.Machine) (impl.Machine, bool){"EitherOf": impl.EitherOf, "JoinedOf": impl.JoinedOf, "MeetOf": impl.MeetOf}
}

func TestPairsWithInvalidMachinesFail(t *testing.T) {
	small := machine(1, []int64{0}, []int64{0})
	for name, f := range machinePairs() {
		for what, m := range invalidMachines() {
			got, ok := f(m, small)
			wantNoMachine(t, name+" "+what+" and another one", got, ok)
			got, ok = f(small, m)
			wantNoMachine(t, name+" another one and "+what, got, ok)
		}
		other := machine(2, []int64{0}, []int64{0})
		got, ok := f(small, other)
		wantNoMachine(t, name+" of 1 and 2 letters", got, ok)
		got, ok = f(other, small)
		wantNoMachine(t, name+" of 2 and 1 letters", got, ok)
	}
}

func TestOrderOfArcs(t *testing.T) {
	a := machine(2, []int64{1, -1, 2}, []int64{-1, 3, 4}, [4]int64{2, 0, 1, 5}, [4]int64{0, 1, 0, 6})
	b := machine(2, []int64{7, 8}, []int64{9, -1}, [4]int64{1, 0, 0, 10}, [4]int64{0, 1, 1, 11})
	got, ok := impl.EitherOf(a, b)
	wantMachine(t, "EitherOf", got, ok, machine(2, []int64{1, -1, 2, 7, 8}, []int64{-1, 3, 4, 9, -1},
		[4]int64{2, 0, 1, 5}, [4]int64{0, 1, 0, 6}, [4]int64{4, 3, 0, 10}, [4]int64{3, 4, 1, 11}))
	got, ok = impl.JoinedOf(a, b)
	wantMachine(t, "JoinedOf", got, ok, machine(2, []int64{1, -1, 2, -1, -1}, []int64{-1, -1, -1, 9, -1},
		[4]int64{2, 0, 1, 5}, [4]int64{0, 1, 0, 6}, [4]int64{4, 3, 0, 10}, [4]int64{3, 4, 1, 11},
		[4]int64{1, 3, -1, 10}, [4]int64{1, 4, -1, 11}, [4]int64{2, 3, -1, 11}, [4]int64{2, 4, -1, 12}))
	got, ok = impl.RepeatOf(a)
	wantMachine(t, "RepeatOf", got, ok, machine(2, []int64{0, -1, -1, -1}, []int64{0, -1, -1, -1},
		[4]int64{3, 1, 1, 5}, [4]int64{1, 2, 0, 6}, [4]int64{0, 1, -1, 1}, [4]int64{0, 3, -1, 2}, [4]int64{2, 0, -1, 3}, [4]int64{3, 0, -1, 4}))
	got, ok = impl.BackOf(a)
	wantMachine(t, "BackOf", got, ok, machine(2, []int64{-1, 3, 4}, []int64{1, -1, 2}, [4]int64{0, 2, 1, 5}, [4]int64{1, 0, 0, 6}))
	got, ok = impl.MeetOf(a, b)
	wantMachine(t, "MeetOf", got, ok, machine(2, []int64{8, 9, -1, -1, 9, 10}, []int64{-1, -1, 12, -1, 13, -1},
		[4]int64{4, 1, 1, 16}, [4]int64{1, 2, 0, 16}))
}

func TestExamplesOfChapter2(t *testing.T) {
	wantCost(t, "the example", one(), []int64{0}, 3)
	wantCost(t, "the example", one(), []int64{0, 0}, -1)
	repeated, ok := impl.RepeatOf(one())
	want(t, "RepeatOf succeeds", ok, true)
	wantCost(t, "the repeated one", repeated, []int64{0, 0}, 6)
	other, ok := impl.OtherPlain(even())
	want(t, "OtherPlain succeeds", ok, true)
	word, ok := impl.ApartWord(even(), other)
	wantList(t, "ApartWord of words of an even number and the others", word, ok)
}

// leastSplit returns the least sum of the costs of two parts of a word.
func leastSplit(a, b impl.Machine, word []int64) int64 {
	least := int64(-1)
	for at := range len(word) + 1 {
		least = lessOf(least, sumOf(knownCost(a, word[:at]), knownCost(b, word[at:])))
	}
	return least
}

// leastParts returns the least sum of the costs of any number of parts of a word.
func leastParts(m impl.Machine, word []int64) int64 {
	least := []int64{0}
	for to := range word {
		sum := int64(-1)
		for from := range to + 1 {
			sum = lessOf(sum, sumOf(least[from], knownCost(m, word[from:to+1])))
		}
		least = append(least, sum)
	}
	return least[len(word)]
}

func backward(word []int64) []int64 {
	word = slices.Clone(word)
	slices.Reverse(word)
	return word
}

func TestMachinesWeighAsTheirPartsTell(t *testing.T) {
	r := rand.New(rand.NewSource(2))
	words := wordsUpTo(2, 4)
	for range 400 {
		a, b := randomMachine(r, 2, true), randomMachine(r, 2, true)
		either, _ := impl.EitherOf(a, b)
		joined, _ := impl.JoinedOf(a, b)
		repeated, _ := impl.RepeatOf(a)
		back, _ := impl.BackOf(a)
		for _, word := range words {
			wantCost(t, "the machine", a, word, knownCost(a, word))
			wantCost(t, "either", either, word, lessOf(knownCost(a, word), knownCost(b, word)))
			wantCost(t, "joined", joined, word, leastSplit(a, b, word))
			wantCost(t, "repeated", repeated, word, leastParts(a, word))
			wantCost(t, "back", back, backward(word), knownCost(a, word))
		}
		if t.Failed() {
			t.Fatal(a, b)
		}
	}
}

func TestMachinesMeet(t *testing.T) {
	r := rand.New(rand.NewSource(3))
	words := wordsUpTo(2, 4)
	for range 400 {
		a, b := randomMachine(r, 2, false), randomMachine(r, 2, false)
		meet, ok := impl.MeetOf(a, b)
		want(t, "MeetOf succeeds", ok, true)
		for _, word := range words {
			wantCost(t, "both", meet, word, sumOf(knownCost(a, word), knownCost(b, word)))
		}
		if t.Failed() {
			t.Fatal(a, b)
		}
	}
}

func TestTidyMachinesWeighTheSame(t *testing.T) {
	r := rand.New(rand.NewSource(4))
	words := wordsUpTo(2, 4)
	for range 400 {
		m := randomMachine(r, 2, true)
		tidy, _ := impl.TidyOf(m)
		trim, some := impl.TrimOf(m)
		filled, _ := impl.WithoutEmpty(m)
		wantTidy(t, tidy, -1)
		wantTidy(t, filled, 0)
		if some {
			wantTidy(t, trim, -1)
			wantOnWays(t, trim)
		}
		for _, word := range words {
			cost := knownCost(m, word)
			wantCost(t, "the tidy machine", tidy, word, cost)
			wantCost(t, "the machine without empty arcs", filled, word, cost)
			if some {
				wantCost(t, "the trim machine", trim, word, cost)
			} else {
				want(t, "the cost of a machine with no way", cost, -1)
			}
		}
		if t.Failed() {
			t.Fatal(m)
		}
	}
}

// wantTidy checks that arcs are in order, none twice, and that their letters are least or more.
func wantTidy(t *testing.T, m impl.Machine, least int64) {
	t.Helper()
	for i, arc := range m.Arcs {
		if arc.Letter < least {
			t.Errorf("the letter of %v", arc)
		}
		if i == 0 {
			continue
		}
		last := m.Arcs[i-1]
		if slices.Compare([]int64{last.From, last.Letter, last.To}, []int64{arc.From, arc.Letter, arc.To}) >= 0 {
			t.Errorf("%v is before %v", last, arc)
		}
	}
}

// wantOnWays checks that each state is on a way: if it were the only start, or the only end, there would still be one.
func wantOnWays(t *testing.T, m impl.Machine) {
	t.Helper()
	for state := range m.States {
		only := costs(-1, int(m.States))
		only[state] = 0
		for _, part := range []impl.Machine{
			{States: m.States, Letters: m.Letters, Arcs: m.Arcs, Starts: only, Ends: m.Ends},
			{States: m.States, Letters: m.Letters, Arcs: m.Arcs, Starts: m.Starts, Ends: only},
		} {
			if !slices.ContainsFunc(wordsUpTo(m.Letters, 4), func(word []int64) bool { return knownCost(part, word) >= 0 }) {
				t.Errorf("the state %d of %v is on no way", state, m)
			}
		}
	}
}

func TestTidyOf(t *testing.T) {
	got, ok := impl.TidyOf(machine(2, []int64{0, 4}, []int64{-1, 5},
		[4]int64{1, 1, 0, 1}, [4]int64{1, 0, 1, 2}, [4]int64{0, 1, 0, 9}, [4]int64{0, 0, 1, 3}, [4]int64{0, 1, -1, 4},
		[4]int64{0, 1, 0, 7}, [4]int64{0, 0, 0, 8}, [4]int64{0, 1, 0, 7}, [4]int64{0, 0, -1, 1000}, [4]int64{1, 0, 1, 0}))
	wantMachine(t, "TidyOf", got, ok, machine(2, []int64{0, 4}, []int64{-1, 5},
		[4]int64{0, 0, -1, 1000}, [4]int64{0, 1, -1, 4}, [4]int64{0, 0, 0, 8}, [4]int64{0, 1, 0, 7}, [4]int64{0, 0, 1, 3},
		[4]int64{1, 1, 0, 1}, [4]int64{1, 0, 1, 0}))
	got, ok = impl.TidyOf(machine(1, []int64{-1}, []int64{-1}))
	wantMachine(t, "TidyOf a machine with no arcs", got, ok, machine(1, []int64{-1}, []int64{-1}))
	got, ok = impl.TidyOf(manyArcs(2, 128))
	wantMachine(t, "TidyOf 128 arcs", got, ok, manyArcs(2, 4))
}

func TestTrimOf(t *testing.T) {
	// 0 leads nowhere, 1 is a start, 2 is reached from none, 3 is on the way, 4 is an end, 5 a start and an end alone.
	got, ok := impl.TrimOf(machine(1, []int64{-1, 2, -1, -1, -1, 1000}, []int64{-1, -1, -1, -1, 3, 1000},
		[4]int64{3, 4, -1, 1}, [4]int64{3, 0, 0, 1}, [4]int64{0, 0, 0, 1}, [4]int64{2, 3, 0, 1}, [4]int64{2, 4, -1, 1}, [4]int64{1, 3, 0, 6}, [4]int64{1, 3, 0, 5}))
	wantMachine(t, "TrimOf", got, ok, machine(1, []int64{2, -1, -1, 1000}, []int64{-1, -1, 3, 1000}, [4]int64{0, 1, 0, 5}, [4]int64{1, 2, -1, 1}))
	for what, m := range map[string]impl.Machine{
		"no start":  machine(1, []int64{-1, -1}, []int64{0, 0}, [4]int64{0, 1, 0, 0}),
		"no end":    machine(1, []int64{0, 0}, []int64{-1, -1}, [4]int64{0, 1, 0, 0}),
		"no arc":    machine(1, []int64{0, -1}, []int64{-1, 0}),
		"arcs back": machine(1, []int64{0, -1}, []int64{-1, 0}, [4]int64{1, 0, 0, 0}, [4]int64{1, 0, -1, 0}),
	} {
		got, ok := impl.TrimOf(m)
		wantNoMachine(t, "TrimOf a machine with "+what, got, ok)
	}
}

func TestWithoutEmpty(t *testing.T) {
	got, ok := impl.WithoutEmpty(machine(2, []int64{4, -1, -1}, []int64{-1, 1, -1},
		[4]int64{0, 1, -1, 3}, [4]int64{1, 2, -1, 2}, [4]int64{0, 2, -1, 9}, [4]int64{2, 0, -1, 0}, [4]int64{2, 2, -1, 0}, // a round
		[4]int64{2, 1, 0, 6}, [4]int64{1, 1, 0, 7}, [4]int64{0, 0, 1, 8}))
	wantMachine(t, "WithoutEmpty", got, ok, machine(2, []int64{4, -1, -1}, []int64{4, 1, 4},
		[4]int64{0, 1, 0, 10}, [4]int64{0, 0, 1, 8}, [4]int64{1, 1, 0, 7}, [4]int64{1, 0, 1, 10}, [4]int64{2, 1, 0, 6}, [4]int64{2, 0, 1, 8}))
	got, ok = impl.WithoutEmpty(machine(1, []int64{-1, -1}, []int64{-1, -1}, [4]int64{0, 1, -1, 1}))
	wantMachine(t, "WithoutEmpty of empty arcs alone", got, ok, machine(1, []int64{-1, -1}, []int64{-1, -1}))
}

func TestWithoutEmptyAtLimits(t *testing.T) {
	// An arc with a letter behind an empty one, an end behind it, and a way for the same arc at a lower cost.
	of := func(empty, cost, end int64, more ...[4]int64) impl.Machine {
		arcs := append([][4]int64{{0, 1, -1, empty}, {1, 2, 0, cost}}, more...)
		return machine(1, []int64{0, -1, -1}, []int64{-1, end, -1}, arcs...)
	}
	got, ok := impl.WithoutEmpty(of(400, 600, 600))
	wantMachine(t, "WithoutEmpty with the cost 1000", got, ok, machine(1, []int64{0, -1, -1}, []int64{1000, 600, -1}, [4]int64{0, 2, 0, 1000}, [4]int64{1, 2, 0, 600}))
	got, ok = impl.WithoutEmpty(of(400, 601, 600))
	wantNoMachine(t, "WithoutEmpty with an arc of 1001", got, ok)
	got, ok = impl.WithoutEmpty(of(400, 600, 601))
	wantNoMachine(t, "WithoutEmpty with an end of 1001", got, ok)
	got, ok = impl.WithoutEmpty(of(1000, 1000, -1, [4]int64{0, 2, 0, 1000}))
	wantMachine(t, "WithoutEmpty with an equal arc of 2000", got, ok, machine(1, []int64{0, -1, -1}, costs(-1, 3), [4]int64{0, 2, 0, 1000}, [4]int64{1, 2, 0, 1000}))
}

func TestWithoutEmptyWithManyArcs(t *testing.T) {
	// Empty arcs lead around some states, so each has the arcs of all.
	of := func(states int64, arcs ...[4]int64) impl.Machine {
		for state := range states {
			arcs = append(arcs, [4]int64{state, (state + 1) % states, -1, 0})
		}
		return machine(4, costs(0, int(states)), costs(0, int(states)), arcs...)
	}
	some := [][4]int64{{0, 0, 0, 1}, {0, 1, 1, 1}, {0, 2, 2, 1}, {0, 3, 3, 1}, {0, 4, 0, 1}, {0, 5, 1, 1}, {0, 6, 2, 1}, {0, 7, 3, 1}}
	got, ok := impl.WithoutEmpty(of(16, some...))
	want(t, "WithoutEmpty with 128 arcs succeeds", ok, true)
	want(t, "the arcs of WithoutEmpty", len(got.Arcs), 128)
	got, ok = impl.WithoutEmpty(of(16, slices.Concat(some, some, some)...))
	want(t, "WithoutEmpty with 384 arcs, of which 128 are left, succeeds", ok, true)
	want(t, "the arcs of WithoutEmpty", len(got.Arcs), 128)
	got, ok = impl.WithoutEmpty(of(16, append(some, [4]int64{0, 8, 0, 1})...))
	wantNoMachine(t, "WithoutEmpty with 144 arcs", got, ok)
}
