package tests

import (
	"fmt"
	"math/rand"
	"slices"
	"testing"

	"loop.example/g01357/impl"
)

// machine returns a machine with arcs told as From, To, Letter and Cost.
func machine(letters int64, starts, ends []int64, arcs ...[4]int64) impl.Machine {
	m := impl.Machine{States: int64(len(starts)), Letters: letters, Starts: starts, Ends: ends}
	for _, a := range arcs {
		m.Arcs = append(m.Arcs, impl.Arc{From: a[0], To: a[1], Letter: a[2], Cost: a[3]})
	}
	return m
}

// plain returns a plain machine with ends told as 0 and 1.
func plain(letters int64, next []int64, ends ...int64) impl.Plain {
	p := impl.Plain{States: int64(len(ends)), Letters: letters, Next: next}
	for _, end := range ends {
		p.Ends = append(p.Ends, end == 1)
	}
	return p
}

// costs returns a list of one cost for some states.
func costs(cost int64, states int) []int64 { return slices.Repeat([]int64{cost}, states) }

// one reads the word 0 at the cost 3: the first example of the document.
func one() impl.Machine {
	return machine(1, []int64{0, -1}, []int64{-1, 0}, [4]int64{0, 1, 0, 3})
}

// even reads words with an even number of letters.
func even() impl.Plain { return plain(1, []int64{1, 0}, 1, 0) }

// manyArcs returns a machine of some states with some arcs, from the first state to the last one, that are all different
// as long as there are at most 1001 of them for each letter.
func manyArcs(states, arcs int) impl.Machine {
	m := machine(4, costs(-1, states), costs(-1, states))
	m.Starts[0], m.Ends[states-1] = 0, 0
	for i := range arcs {
		m.Arcs = append(m.Arcs, impl.Arc{From: 0, To: int64(states - 1), Letter: int64(i % 4), Cost: int64(i / 4)})
	}
	return m
}

// chain returns a machine that reads the word of so many letters 0 alone, each of which costs 1.
func chain(letters int) impl.Machine {
	m := machine(1, costs(-1, letters+1), costs(-1, letters+1))
	m.Starts[0], m.Ends[letters] = 0, 0
	for i := range int64(letters) {
		m.Arcs = append(m.Arcs, impl.Arc{From: i, To: i + 1, Letter: 0, Cost: 1})
	}
	return m
}

// cycle returns a plain machine of one letter that counts letters modulo size, with an end where as many are left as told.
func cycle(size int64, ends ...int64) impl.Plain {
	p := impl.Plain{States: size, Letters: 1, Ends: make([]bool, size)}
	for state := range size {
		p.Next = append(p.Next, (state+1)%size)
	}
	for _, end := range ends {
		p.Ends[end] = true
	}
	return p
}

// counter returns a plain machine of two letters that counts one of them modulo size, and reads words with size - 1.
func counter(size, letter int64) impl.Plain {
	p := impl.Plain{States: size, Letters: 2, Next: make([]int64, 2*size), Ends: make([]bool, size)}
	for state := range size {
		p.Next[2*state+letter] = (state + 1) % size
		p.Next[2*state+1-letter] = state
	}
	p.Ends[size-1] = true
	return p
}

// someCost returns a random cost, or none.
func someCost(r *rand.Rand) int64 { return max(r.Int63n(9)-3, -1) }

// randomMachine returns a machine of 1 to 4 states with small costs, with or without empty arcs.
func randomMachine(r *rand.Rand, letters int64, empty bool) impl.Machine {
	m := impl.Machine{States: 1 + r.Int63n(4), Letters: letters}
	for range m.States {
		m.Starts = append(m.Starts, someCost(r))
		m.Ends = append(m.Ends, someCost(r))
	}
	for range r.Intn(10) {
		arc := impl.Arc{From: r.Int63n(m.States), To: r.Int63n(m.States), Letter: r.Int63n(letters), Cost: r.Int63n(6)}
		if empty && r.Intn(3) == 0 {
			arc.Letter = -1
		}
		m.Arcs = append(m.Arcs, arc)
	}
	return m
}

// randomPlain returns a plain machine of 1 to 6 states.
func randomPlain(r *rand.Rand, letters int64) impl.Plain {
	p := impl.Plain{States: 1 + r.Int63n(6), Letters: letters}
	for range p.States * letters {
		p.Next = append(p.Next, r.Int63n(p.States))
	}
	for range p.States {
		p.Ends = append(p.Ends, r.Intn(2) == 0)
	}
	return p
}

// wordsUpTo returns all words of at most most letters, in the order of lengths and letters.
func wordsUpTo(letters int64, most int) [][]int64 {
	words := [][]int64{{}}
	for at := 0; len(words[at]) < most; at++ {
		for letter := range letters {
			words = append(words, append(slices.Clone(words[at]), letter))
		}
	}
	return words
}

// lessOf returns the lesser one of two costs, -1 if there is none.
func lessOf(a, b int64) int64 {
	if a < 0 || b < 0 {
		return max(a, b)
	}
	return min(a, b)
}

// sumOf returns the sum of two costs, -1 if one of both is none.
func sumOf(a, b int64) int64 {
	if a < 0 || b < 0 {
		return -1
	}
	return a + b
}

// knownCost returns the least cost of a word, told by places in it: each arc is tried at each of them until no cost
// becomes less.
func knownCost(m impl.Machine, word []int64) int64 {
	table := [][]int64{slices.Clone(m.Starts)}
	for range word {
		table = append(table, costs(-1, int(m.States)))
	}
	for again := true; again; {
		again = false
		for at, row := range table {
			for _, arc := range m.Arcs {
				to := at
				if arc.Letter >= 0 {
					if to = at + 1; at == len(word) || word[at] != arc.Letter {
						continue
					}
				}
				cost := lessOf(table[to][arc.To], sumOf(row[arc.From], arc.Cost))
				again = again || cost != table[to][arc.To]
				table[to][arc.To] = cost
			}
		}
	}
	least := int64(-1)
	for state, cost := range table[len(word)] {
		least = lessOf(least, sumOf(cost, m.Ends[state]))
	}
	return least
}

// knownReads reports whether a plain machine reads a word.
func knownReads(p impl.Plain, word []int64) bool {
	state := int64(0)
	for _, letter := range word {
		state = p.Next[state*p.Letters+letter]
	}
	return p.Ends[state]
}

// wantSame checks that values are printed alike, where no list is like an empty one.
func wantSame(t *testing.T, what string, got, expected any) {
	t.Helper()
	if a, b := fmt.Sprint(got), fmt.Sprint(expected); a != b {
		t.Errorf("%s: got %s, want %s", what, a, b)
	}
}

func wantMachine(t *testing.T, what string, got impl.Machine, ok bool, expected impl.Machine) {
	t.Helper()
	want(t, what+" succeeds", ok, true)
	wantSame(t, what, got, expected)
}

func wantPlain(t *testing.T, what string, got impl.Plain, ok bool, expected impl.Plain) {
	t.Helper()
	want(t, what+" succeeds", ok, true)
	wantSame(t, what, got, expected)
}

func wantNoMachine(t *testing.T, what string, got impl.Machine, ok bool) {
	t.Helper()
	if ok || got.States != 0 || got.Letters != 0 || len(got.Arcs)+len(got.Starts)+len(got.Ends) != 0 {
		t.Errorf("%s: got %v, %v, want a failure", what, got, ok)
	}
}

func wantNoPlain(t *testing.T, what string, got impl.Plain, ok bool) {
	t.Helper()
	if ok || got.States != 0 || got.Letters != 0 || len(got.Next)+len(got.Ends) != 0 {
		t.Errorf("%s: got %v, %v, want a failure", what, got, ok)
	}
}

func wantList(t *testing.T, what string, got []int64, ok bool, expected ...int64) {
	t.Helper()
	if !ok || !slices.Equal(got, expected) {
		t.Errorf("%s: got %v, %v, want %v", what, got, ok, expected)
	}
}

// wantCost checks the cost of a word.
func wantCost(t *testing.T, what string, m impl.Machine, word []int64, expected int64) {
	t.Helper()
	cost, ok := impl.CostOf(m, word)
	want(t, fmt.Sprint("CostOf ", what, word, " succeeds"), ok, true)
	want(t, fmt.Sprint("CostOf ", what, word), cost, expected)
}

// wantValid checks which values are valid.
func wantValid[T any](t *testing.T, name string, isValid func(T) bool, valid, invalid map[string]T) {
	t.Helper()
	for what, v := range valid {
		want(t, name+" of "+what, isValid(v), true)
	}
	for what, v := range invalid {
		want(t, name+" of "+what, isValid(v), false)
	}
}

// wantSameAlone checks that other values, though invalid, are the same as themselves, and none is the same as the example.
func wantSameAlone[T any](t *testing.T, name string, isSame func(a, b T) bool, example T, others map[string]T) {
	t.Helper()
	want(t, name+" of twice the example", isSame(example, example), true)
	for what, v := range others {
		want(t, name+" of twice "+what, isSame(v, v), true)
		want(t, name+" of the example and "+what, isSame(example, v), false)
		want(t, name+" of "+what+" and the example", isSame(v, example), false)
	}
}
