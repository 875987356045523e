package tests

import (
	"fmt"
	"math"
	"math/rand"
	"slices"
	"testing"

	"loop.example/g01357/impl"
)

// validPlains are plain machines at all limits.
func validPlains() map[string]impl.Plain {
	return map[string]impl.Plain{
		"the example": even(),
		"one state":   plain(4, []int64{0, 0, 0, 0}, 0),
		"64 states":   cycle(64),
	}
}

// invalidPlains are plain machines just past a limit, and others.
func invalidPlains() map[string]impl.Plain {
	all := map[string]impl.Plain{
		"no machine": {}, "65 states": cycle(65), "no ends": plain(1, []int64{0, 0}),
		"5 letters":      plain(5, make([]int64, 5), 1),
		"no next states": plain(1, nil, 1), "few next states": plain(2, []int64{0, 0, 0}, 1, 0), "many next states": plain(1, []int64{0, 0, 0}, 1, 0),
		"few ends": {States: 2, Letters: 1, Next: []int64{0, 0}, Ends: []bool{true}}, "many ends": {States: 1, Letters: 1, Next: []int64{0}, Ends: []bool{true, true}},
	}
	for _, n := range []int64{-1, 2, math.MinInt64, math.MaxInt64} {
		all[fmt.Sprint("the next state ", n)] = plain(1, []int64{0, n}, 1, 0)
	}
	for _, n := range []int64{0, -1, 1, 3, 65, 1 << 62, math.MinInt64, math.MaxInt64} {
		p, other := even(), even()
		p.States = n
		all[fmt.Sprint(n, " states told")] = p
		if n != 1 {
			other.Letters = n
			all[fmt.Sprint(n, " letters told")] = other
		}
	}
	return all
}

func TestValidPlain(t *testing.T) {
	wantValid(t, "ValidPlain", impl.ValidPlain, validPlains(), invalidPlains())
}

func TestSamePlain(t *testing.T) {
	wantSameAlone(t, "SamePlain", impl.SamePlain, even(), invalidPlains())
	want(t, "SamePlain of no lists and empty ones", impl.SamePlain(impl.Plain{Next: []int64{}, Ends: []bool{}}, impl.Plain{}), true)
	want(t, "SamePlain with other next states", impl.SamePlain(even(), plain(1, []int64{1, 1}, 1, 0)), false)
	want(t, "SamePlain with other ends", impl.SamePlain(even(), plain(1, []int64{1, 0}, 1, 1)), false)
}

// TestInvalidPlainsFail holds for all functions that receive plain machines.
func TestInvalidPlainsFail(t *testing.T) {
	for what, p := range invalidPlains() {
		reads, ok := impl.ReadsWord(p, nil)
		want(t, "ReadsWord "+what, [2]bool{reads, ok}, [2]bool{})
		other, ok := impl.OtherPlain(p)
		wantNoPlain(t, "OtherPlain "+what, other, ok)
		least, ok := impl.LeastPlain(p)
		wantNoPlain(t, "LeastPlain "+what, least, ok)
		word, ok := impl.FirstWord(p)
		wantListFailure(t, "FirstWord "+what, word, ok)
		count, ok := impl.CountWords(p, 0)
		wantFailure(t, "CountWords "+what, count, ok)
		wantPairFails(t, what, p, plain(1, []int64{0}, 1))
		wantPairFails(t, what, p, p)
	}
	wantPairFails(t, "1 and 2 letters", plain(1, []int64{0}, 1), plain(2, []int64{0, 0}, 0))
}

// wantPairFails checks that functions of two plain machines fail, the one as well as the other first.
func wantPairFails(t *testing.T, what string, a, b impl.Plain) {
	t.Helper()
	for range 2 {
		meet, ok := impl.MeetPlain(a, b)
		wantNoPlain(t, "MeetPlain "+what, meet, ok)
		word, ok := impl.ApartWord(a, b)
		wantListFailure(t, "ApartWord "+what, word, ok)
		a, b = b, a
	}
}

func TestReadsWord(t *testing.T) {
	for n := range 13 {
		reads, ok := impl.ReadsWord(even(), make([]int64, n))
		want(t, fmt.Sprint("ReadsWord ", n, " letters"), [2]bool{reads, ok}, [2]bool{n%2 == 0, true})
	}
	two := plain(2, []int64{1, 2, 2, 2, 0, 1}, 0, 1, 0)
	for _, word := range wordsUpTo(2, 6) {
		reads, ok := impl.ReadsWord(two, word)
		want(t, fmt.Sprint("ReadsWord ", word), [2]bool{reads, ok}, [2]bool{knownReads(two, word), true})
	}
	for _, word := range [][]int64{{1}, {-1}, {0, 1}, make([]int64, 13)} {
		reads, ok := impl.ReadsWord(even(), word)
		want(t, fmt.Sprint("ReadsWord ", word), [2]bool{reads, ok}, [2]bool{})
	}
}

func TestPlainOf(t *testing.T) {
	p, ok := impl.PlainOf(one())
	wantPlain(t, "PlainOf the example", p, ok, plain(1, []int64{1, 2, 2}, 0, 1, 0))
	p, ok = impl.PlainOf(machine(2, []int64{-1}, []int64{0}, [4]int64{0, 0, 0, 0}))
	wantPlain(t, "PlainOf a machine without a start", p, ok, plain(2, []int64{0, 0}, 0))
	// The word of no letters leads to 1 and 2, the letter 1 from these back to them, and the letter 0 to the round of 0 and 3.
	p, ok = impl.PlainOf(machine(2, []int64{-1, 9, -1, -1}, []int64{-1, -1, 8, 7},
		[4]int64{1, 2, -1, 5}, [4]int64{1, 2, 1, 4}, [4]int64{2, 1, 1, 4}, [4]int64{1, 0, 0, 3}, [4]int64{0, 3, -1, 3}, [4]int64{3, 0, -1, 1}, [4]int64{3, 3, 1, 1}))
	wantPlain(t, "PlainOf with empty arcs", p, ok, plain(2, []int64{1, 0, 2, 1, 2, 2}, 1, 1, 0))
}

// lastButFive returns a machine that reads words with the letter 1 before the last five ones, which has 64 sets.
func lastButFive() impl.Machine {
	m := machine(2, append([]int64{0}, costs(-1, 6)...), append(costs(-1, 6), 0), [4]int64{0, 0, 0, 0}, [4]int64{0, 0, 1, 0}, [4]int64{0, 1, 1, 0})
	for state := range int64(5) {
		for letter := range int64(2) {
			m.Arcs = append(m.Arcs, impl.Arc{From: state + 1, To: state + 2, Letter: letter})
		}
	}
	return m
}

func TestPlainOfAtLimits(t *testing.T) {
	m := lastButFive()
	p, ok := impl.PlainOf(m)
	want(t, "PlainOf with 64 sets succeeds", ok, true)
	want(t, "the states of PlainOf", p.States, 64)
	for _, word := range append(wordsUpTo(2, 7), []int64{0, 1, 0, 1, 0, 1, 0, 1, 0, 1, 0, 1}) {
		reads, _ := impl.ReadsWord(p, word)
		want(t, fmt.Sprint("PlainOf reads ", word), reads, len(word) > 5 && word[len(word)-6] == 1)
	}
	// One more state in front is one more set.
	m.States, m.Starts, m.Ends = 8, append(costs(-1, 7), 0), append(m.Ends, -1)
	m.Arcs = append(m.Arcs, impl.Arc{From: 7, To: 0, Letter: 0})
	p, ok = impl.PlainOf(m)
	wantNoPlain(t, "PlainOf with 65 sets", p, ok)
}

// wantFoundInOrder checks that all states are found from 0 on, in this order.
func wantFoundInOrder(t *testing.T, what string, p impl.Plain) {
	t.Helper()
	most := int64(0)
	for at, state := range p.Next {
		if int64(at) >= (most+1)*p.Letters || state > most+1 {
			t.Fatalf("%s: %v is not in order", what, p)
		}
		most = max(most, state)
	}
	want(t, what+": the states that are found", most+1, p.States)
}

func TestPlainsReadWhatMachinesRead(t *testing.T) {
	r := rand.New(rand.NewSource(7))
	words := wordsUpTo(2, 5)
	for range 400 {
		m := randomMachine(r, 2, true)
		p, ok := impl.PlainOf(m)
		want(t, "PlainOf succeeds and is valid", ok && impl.ValidPlain(p), true)
		wantFoundInOrder(t, "PlainOf", p)
		for _, word := range words {
			want(t, fmt.Sprint("PlainOf reads ", word), knownReads(p, word), knownCost(m, word) >= 0)
		}
		if t.Failed() {
			t.Fatal(m)
		}
	}
}

func TestOtherPlain(t *testing.T) {
	p, ok := impl.OtherPlain(plain(2, []int64{0, 1, 2, 2, 1, 0}, 1, 0, 1))
	wantPlain(t, "OtherPlain", p, ok, plain(2, []int64{0, 1, 2, 2, 1, 0}, 0, 1, 0))
}

func TestMeetPlain(t *testing.T) {
	p, ok := impl.MeetPlain(even(), cycle(3, 1, 2))
	wantPlain(t, "MeetPlain", p, ok, plain(1, []int64{1, 2, 3, 4, 5, 0}, 0, 0, 1, 0, 1, 0))
	p, ok = impl.MeetPlain(plain(2, []int64{0, 1, 1, 0}, 1, 0), plain(2, []int64{1, 1, 1, 0}, 0, 1))
	wantPlain(t, "MeetPlain", p, ok, plain(2, []int64{1, 2, 1, 3, 2, 0, 2, 1}, 0, 1, 0, 0))
}

func TestMeetPlainAtLimits(t *testing.T) {
	p, ok := impl.MeetPlain(counter(8, 0), counter(8, 1))
	want(t, "MeetPlain with 64 pairs succeeds", ok, true)
	want(t, "the states of MeetPlain", p.States, 64)
	p, ok = impl.MeetPlain(cycle(63), cycle(21))
	want(t, "MeetPlain with 63 of 1323 pairs succeeds", ok, true)
	want(t, "the states of MeetPlain", p.States, 63)
	p, ok = impl.MeetPlain(cycle(5), cycle(13))
	wantNoPlain(t, "MeetPlain with 65 pairs", p, ok)
	p, ok = impl.MeetPlain(cycle(64), cycle(63))
	wantNoPlain(t, "MeetPlain with 4032 pairs", p, ok)
}

func TestPlainsMeet(t *testing.T) {
	r := rand.New(rand.NewSource(8))
	words := wordsUpTo(2, 6)
	for range 300 {
		a, b := randomPlain(r, 2), randomPlain(r, 2)
		meet, ok := impl.MeetPlain(a, b)
		want(t, "MeetPlain succeeds and is valid", ok && impl.ValidPlain(meet), true)
		wantFoundInOrder(t, "MeetPlain", meet)
		other, _ := impl.OtherPlain(a)
		for _, word := range words {
			want(t, fmt.Sprint("MeetPlain reads ", word), knownReads(meet, word), knownReads(a, word) && knownReads(b, word))
			want(t, fmt.Sprint("OtherPlain reads ", word), knownReads(other, word), !knownReads(a, word))
		}
		if t.Failed() {
			t.Fatal(a, b)
		}
	}
}

// classesOf returns how many states with different words are found from 0 on, told by all words of so many letters that
// two of at most 6 states are told apart by one.
func classesOf(p impl.Plain, words [][]int64) int64 {
	rows := map[string]bool{}
	for _, word := range words {
		row := ""
		for _, more := range words {
			row += fmt.Sprint(knownReads(p, slices.Concat(word, more)))
		}
		rows[row] = true
	}
	return int64(len(rows))
}

func TestLeastPlainIsSmallest(t *testing.T) {
	r := rand.New(rand.NewSource(9))
	words := wordsUpTo(2, 5)
	for range 200 {
		p := randomPlain(r, 2)
		least, ok := impl.LeastPlain(p)
		want(t, "LeastPlain succeeds and is valid", ok && impl.ValidPlain(least), true)
		wantFoundInOrder(t, "LeastPlain", least)
		want(t, "the states of LeastPlain", least.States, classesOf(p, words))
		word, ok := impl.ApartWord(p, least)
		wantListFailure(t, "ApartWord of LeastPlain", word, ok)
		for _, word := range words {
			want(t, fmt.Sprint("LeastPlain reads ", word), knownReads(least, word), knownReads(p, word))
		}
		if t.Failed() {
			t.Fatal(p)
		}
	}
}

func TestLeastPlain(t *testing.T) {
	p, ok := impl.LeastPlain(cycle(4, 0, 2))
	wantPlain(t, "LeastPlain of words with an even number", p, ok, even())
	p, ok = impl.LeastPlain(cycle(64, 63))
	wantPlain(t, "LeastPlain of 64 states", p, ok, cycle(64, 63))
	p, ok = impl.LeastPlain(cycle(64))
	wantPlain(t, "LeastPlain of no words", p, ok, plain(1, []int64{0}, 0))
	p, ok = impl.LeastPlain(cycle(3, 0, 1, 2))
	wantPlain(t, "LeastPlain of all words", p, ok, plain(1, []int64{0}, 1))
	// The states 1 and 2 are not found, and 3 and 4 are alike; 5 is found before 3.
	p, ok = impl.LeastPlain(plain(2, []int64{5, 3, 0, 1, 2, 2, 0, 3, 0, 4, 5, 4}, 0, 1, 0, 1, 1, 1))
	wantPlain(t, "LeastPlain with states that are not found", p, ok, plain(2, []int64{1, 2, 1, 2, 0, 2}, 0, 1, 1))
}

func TestApartWord(t *testing.T) {
	r := rand.New(rand.NewSource(10))
	words := wordsUpTo(2, 6)
	for range 500 {
		a, b := randomPlain(r, 2), randomPlain(r, 2)
		at := slices.IndexFunc(words, func(word []int64) bool { return knownReads(a, word) != knownReads(b, word) })
		word, ok := impl.ApartWord(a, b)
		if at >= 0 {
			wantList(t, "ApartWord", word, ok, words[at]...)
		} else {
			want(t, "ApartWord has more letters", !ok || len(word) > 6, true)
		}
		at = slices.IndexFunc(words, func(word []int64) bool { return knownReads(a, word) })
		word, ok = impl.FirstWord(a)
		if at >= 0 {
			wantList(t, "FirstWord", word, ok, words[at]...)
		} else {
			wantListFailure(t, "FirstWord", word, ok)
		}
		if t.Failed() {
			t.Fatal(a, b)
		}
	}
}

func TestShortestWordsAtLimits(t *testing.T) {
	word, ok := impl.FirstWord(cycle(13, 12))
	wantList(t, "FirstWord of 12 letters", word, ok, make([]int64, 12)...)
	word, ok = impl.FirstWord(cycle(14, 13))
	wantListFailure(t, "FirstWord of 13 letters", word, ok)
	word, ok = impl.FirstWord(cycle(64, 63))
	wantListFailure(t, "FirstWord of 63 letters", word, ok)
	word, ok = impl.FirstWord(cycle(3))
	wantListFailure(t, "FirstWord where none is read", word, ok)
	word, ok = impl.FirstWord(plain(1, []int64{0, 0}, 0, 1))
	wantListFailure(t, "FirstWord with an end that is not found", word, ok)
	word, ok = impl.FirstWord(even())
	wantList(t, "FirstWord of no letters", word, ok)
	word, ok = impl.ApartWord(cycle(14, 12), cycle(14))
	wantList(t, "ApartWord of 12 letters", word, ok, make([]int64, 12)...)
	word, ok = impl.ApartWord(cycle(14), cycle(14, 13))
	wantListFailure(t, "ApartWord of 13 letters", word, ok)
	word, ok = impl.ApartWord(cycle(64, 63), cycle(63))
	wantListFailure(t, "ApartWord of 63 letters", word, ok)
	word, ok = impl.ApartWord(even(), cycle(4, 0, 2))
	wantListFailure(t, "ApartWord of machines that read the same", word, ok)
	word, ok = impl.ApartWord(counter(10, 0), counter(11, 1))
	wantList(t, "ApartWord with 110 pairs", word, ok, make([]int64, 9)...)
}

func TestCountWords(t *testing.T) {
	all := plain(4, []int64{0, 0, 0, 0}, 1)
	for long, count := int64(0), int64(1); long <= 12; long, count = long+1, 4*count {
		got, ok := impl.CountWords(all, long)
		want(t, fmt.Sprint("CountWords ", long, " succeeds"), ok, true)
		want(t, fmt.Sprint("CountWords ", long), got, count)
		got, _ = impl.CountWords(even(), long)
		want(t, fmt.Sprint("CountWords ", long, " of an even number"), got, 1-long%2)
	}
	for _, long := range []int64{-1, 13, math.MinInt64, math.MaxInt64} {
		got, ok := impl.CountWords(all, long)
		wantFailure(t, fmt.Sprint("CountWords ", long), got, ok)
	}
}

func TestCountWordsCountsAll(t *testing.T) {
	r := rand.New(rand.NewSource(11))
	for range 200 {
		p := randomPlain(r, 3)
		counts := make([]int64, 5)
		for _, word := range wordsUpTo(3, 4) {
			if knownReads(p, word) {
				counts[len(word)]++
			}
		}
		for long, count := range counts {
			got, ok := impl.CountWords(p, int64(long))
			want(t, "CountWords succeeds", ok, true)
			want(t, fmt.Sprint("CountWords ", p, long), got, count)
		}
	}
}
