package tests

import (
	"fmt"
	"math/rand"
	"slices"
	"testing"

	"loop.example/g01357/impl"
)

// eachLoop checks random loops for 1 to 4 letters.
func eachLoop(times int, check func(r *rand.Rand, l impl.Loop, letters int64)) {
	r := rand.New(rand.NewSource(20))
	for range times {
		letters := 1 + r.Int63n(4)
		check(r, randomLoop(r, letters), letters)
	}
}

func TestValidLoop(t *testing.T) {
	valid := map[string]impl.Loop{
		"no Head": loop("", "0"), "12 letters each": loop(zeros(12), zeros(12)), "the letter 2": loop("2", "2"), "a Round that is a power": loop("", "0101"),
		"a Head that ends like the Round": loop("01", "01"),
	}
	wantValid(t, "ValidLoop", func(l impl.Loop) bool { return impl.ValidLoop(l, 3) }, valid, invalidLoops())
	for _, letters := range append(others(), 0, 5) {
		want(t, fmt.Sprint("ValidLoop for letters ", letters), impl.ValidLoop(loop("0", "0"), letters), false)
	}
	for letters := range int64(5) {
		want(t, fmt.Sprint("ValidLoop with the letter 2 for letters ", letters), impl.ValidLoop(loop("2", "2"), letters), letters > 2)
	}
}

func TestExamplesOfLoops(t *testing.T) {
	normal, ok := impl.NormalLoop(loop("01", "01"), 2)
	wantLoop(t, "NormalLoop of 01, 01", normal, ok, loop("", "01"))
}

func TestNormalLoop(t *testing.T) {
	for _, c := range [][4]string{
		{"", "0", "", "0"}, {"", "0000", "", "0"}, {"", "010101", "", "01"}, {"", "010", "", "010"}, {"", "0010", "", "0010"}, {"", "0101010", "", "0101010"}, {"", "001001", "", "001"}, {"", "00100", "", "00100"},
		{"0", "0", "", "0"}, {"1", "0", "1", "0"}, {"10", "0", "1", "0"}, {"01", "0", "01", "0"}, {"1", "01", "", "10"}, {"0", "01", "0", "01"}, {"01", "0101", "", "01"}, {"101", "01", "", "10"}, {"001", "01", "0", "01"},
		{"01", "2012", "01", "2012"}, {"012", "012", "", "012"}, {"12", "012", "", "120"}, {"2", "012", "", "201"}, {"0012", "012", "0", "012"}, {"112", "012", "1", "120"}, {"22", "012", "2", "201"}, {"0120", "1201", "0120", "1201"}, {"0121", "1201", "012", "1120"},
		{zeros(12), zeros(12), "", "0"}, {zeros(12), "1", zeros(12), "1"}, {"000000000001", "100000000001", "0", "000000000011"}, {"110110110110", "110110110110", "", "110"}, {"010101010101", "010101010101", "", "01"},
		{"011010101010", "101010101010", "01", "10"}, {"100000000000", zeros(12), "1", "0"},
	} {
		normal, ok := impl.NormalLoop(loop(c[0], c[1]), 3)
		wantLoop(t, fmt.Sprint("NormalLoop of ", c[:2]), normal, ok, loop(c[2], c[3]))
	}
}

// knownNormal returns the first loop, in the order of the lengths of Round and of Head, that begins with the same letters
// as l does, so many that they tell it.
func knownNormalLoop(l impl.Loop) impl.Loop {
	text := []int64{}
	for at := range 60 {
		text = append(text, letterOf(l, at))
	}
	for round := 1; ; round++ {
		for head := range len(l.Head) + 1 {
			tried := impl.Loop{Head: text[:head], Round: text[head : head+round]}
			isOther := func(at int) bool { return letterOf(tried, at) != text[at] }
			if !slices.ContainsFunc(places(60), isOther) {
				return tried
			}
		}
	}
}

// places returns the numbers from 0 to count - 1.
func places(count int) []int {
	list := []int{}
	for at := range count {
		list = append(list, at)
	}
	return list
}

func TestNormalLoopIsTheShortest(t *testing.T) {
	shorter := 0
	eachLoop(2000, func(r *rand.Rand, l impl.Loop, letters int64) {
		if r.Intn(3) == 0 {
			l.Round = slices.Repeat(l.Round, 2)
		}
		normal, ok := impl.NormalLoop(l, letters)
		wantLoop(t, fmt.Sprint("NormalLoop of ", l), normal, ok, knownNormalLoop(l))
		if len(normal.Head) < len(l.Head) && len(normal.Round) < len(l.Round) {
			shorter++
		}
		again, ok := impl.NormalLoop(normal, letters)
		wantLoop(t, fmt.Sprint("NormalLoop of the normal loop ", normal), again, ok, normal)
	})
	if shorter < 100 {
		t.Errorf("just %d loops with shorter parts", shorter)
	}
}

func TestLetterAt(t *testing.T) {
	eachLoop(200, func(r *rand.Rand, l impl.Loop, letters int64) {
		for at := range 30 {
			letter, ok := impl.LetterAt(l, letters, int64(at))
			wantCount(t, fmt.Sprint("LetterAt ", l, at), letter, ok, letterOf(l, at))
		}
		normal, _ := impl.NormalLoop(l, letters)
		for _, at := range []int64{0, 99, 999999, 1000000, r.Int63n(1000001)} {
			letter, ok := impl.LetterAt(l, letters, at)
			other, _ := impl.LetterAt(normal, letters, at)
			wantCount(t, fmt.Sprint("LetterAt ", l, at), letter, ok, other)
		}
	})
	// Behind the Head, the index 1000000 is 999999 letters on, which are whole Rounds.
	for at, expected := range map[int64]int64{0: 3, 1: 0, 3: 2, 4: 0, 6: 2, 999999: 2, 1000000: 0} {
		letter, ok := impl.LetterAt(loop("3", "012"), 4, at)
		wantCount(t, fmt.Sprint("LetterAt 3, 012 ", at), letter, ok, expected)
	}
	for _, at := range append(others(), 1000001) {
		letter, ok := impl.LetterAt(loop("1", "1"), 2, at)
		wantFailure(t, fmt.Sprint("LetterAt ", at), letter, ok)
	}
}

// knownAgain returns the states in which a machine is in the second half of many steps.
func knownAgain(p impl.Plain, l impl.Loop) []int64 {
	state, again := int64(0), []int64{}
	half := len(l.Head) + len(l.Round)*int(p.States)
	for at := range 2 * half {
		if state = p.Next[state*p.Letters+letterOf(l, at)]; at >= half {
			again = append(again, state)
		}
	}
	slices.Sort(again)
	return slices.Compact(again)
}

// lastLetter is in the state of the letter that it has just read, and reads loops in which the last letter comes again.
func lastLetter() impl.Plain { return plain(3, []int64{0, 1, 2, 0, 1, 2, 0, 1, 2}, 0, 0, 1) }

// tail leads along states from 0 on to the last two, which lead to each other.
func tail(states int64, ends ...int64) impl.Plain {
	p := cycle(states, ends...)
	p.Next[states-1] = states - 2
	return p
}

func TestStatesOfLoop(t *testing.T) {
	for _, c := range []struct {
		p           impl.Plain
		head, round string
		states      []int64
		read        bool
	}{
		{cycle(1, 0), "", "0", []int64{0}, true}, {cycle(1), "", "0", []int64{0}, false}, {even(), "", "0", []int64{0, 1}, true}, {even(), "", "00", []int64{0, 1}, true},
		{cycle(5, 4), "", "0", []int64{0, 1, 2, 3, 4}, true}, {cycle(6, 5), "0", "0000", []int64{0, 1, 2, 3, 4, 5}, true}, {cycle(64, 63), "", zeros(12), countedFrom(0, 63), true}, {cycle(64), zeros(12), "0", countedFrom(0, 63), false},
		{lastLetter(), "2", "0", []int64{0}, false}, {lastLetter(), "", "2", []int64{2}, true}, {lastLetter(), "2", "01", []int64{0, 1}, false}, {lastLetter(), "0", "210", []int64{0, 1, 2}, true}, {lastLetter(), "", "20", []int64{0, 2}, true},
		// Part of the states alone, and just the last ones, come again.
		{tail(5, 0, 1, 2), "", "0", []int64{3, 4}, false}, {tail(5, 3), "", "0", []int64{3, 4}, true}, {tail(5, 4), "", "0", []int64{3, 4}, true}, {tail(64, 61), "", "0", []int64{62, 63}, false}, {tail(64, 62), zeros(12), "00", []int64{62, 63}, true},
		// From Round to Round, the letter 1 leads from 0 to 1 and back, and from 1, where 0 is read first, by 2.
		{plain(2, []int64{0, 1, 2, 0, 1, 0}, 0, 0, 1), "", "01", []int64{0, 1, 2}, true}, {plain(2, []int64{0, 1, 2, 0, 1, 0}, 0, 0, 1), "", "1", []int64{0, 1}, false}, {plain(2, []int64{0, 1, 2, 0, 1, 0}, 1, 0, 0), "1", "0", []int64{1, 2}, false},
	} {
		what := fmt.Sprint(c.p, c.head, "/", c.round)
		states, ok := impl.StatesOfLoop(c.p, loop(c.head, c.round))
		wantList(t, "StatesOfLoop "+what, states, ok, c.states...)
		read, ok := impl.ReadsLoop(c.p, loop(c.head, c.round))
		wantReport(t, "ReadsLoop "+what, read, ok, c.read)
	}
}

func TestStatesOfLoopAreThoseOfManySteps(t *testing.T) {
	reads, parts := 0, 0
	eachLoop(3000, func(r *rand.Rand, l impl.Loop, letters int64) {
		p := randomPlain(r, letters)
		what := fmt.Sprint(p, l)
		states, ok := impl.StatesOfLoop(p, l)
		known := knownAgain(p, l)
		wantList(t, "StatesOfLoop "+what, states, ok, known...)
		isRead := slices.ContainsFunc(known, func(state int64) bool { return p.Ends[state] })
		read, ok := impl.ReadsLoop(p, l)
		wantReport(t, "ReadsLoop "+what, read, ok, isRead)
		normal, _ := impl.NormalLoop(l, letters)
		states, ok = impl.StatesOfLoop(p, normal)
		wantList(t, "StatesOfLoop of the normal loop of "+what, states, ok, known...)
		if isRead {
			reads++
		}
		if len(known) > 1 && len(known) < int(p.States) {
			parts++
		}
	})
	if reads < 500 || reads > 2500 || parts < 300 {
		t.Errorf("%d loops read, %d through a part of the states", reads, parts)
	}
}

// knownFirstLoop returns the first one of all loops that are read, if there is one.
func knownFirstLoop(p impl.Plain, most int) (impl.Loop, bool) {
	loops := []impl.Loop{}
	for _, head := range wordsUpTo(p.Letters, most) {
		for _, round := range wordsUpTo(p.Letters, most)[1:] {
			l := impl.Loop{Head: head, Round: round}
			if slices.ContainsFunc(knownAgain(p, l), func(state int64) bool { return p.Ends[state] }) {
				loops = append(loops, l)
			}
		}
	}
	if len(loops) == 0 {
		return impl.Loop{}, false
	}
	rank := func(l impl.Loop) []int64 {
		return slices.Concat([]int64{int64(len(l.Head)), int64(len(l.Round))}, l.Head, l.Round)
	}
	return slices.MinFunc(loops, func(a, b impl.Loop) int { return slices.Compare(rank(a), rank(b)) }), true
}

// reading returns a machine of two letters that leads by a word of three letters to an End, where it stays, and to no End
// else.
func reading(a, b, c int64) impl.Plain {
	p := plain(2, slices.Repeat([]int64{4}, 10), 0, 0, 0, 1, 0)
	p.Next[a], p.Next[2+b], p.Next[4+c], p.Next[6], p.Next[7] = 1, 2, 3, 3, 3
	return p
}

// backBy returns a machine of two letters that reads just loops in which a word of three letters comes again and again
// from the first one on.
func backBy(a, b, c int64) impl.Plain {
	p := plain(2, slices.Repeat([]int64{3}, 8), 1, 0, 0, 0)
	p.Next[a], p.Next[2+b], p.Next[4+c] = 1, 2, 0
	return p
}

// twoLoops returns a machine that reads just the loops with the Heads 00 and 01 and the Rounds 1 and 0.
func twoLoops() impl.Plain {
	return plain(2, []int64{1, 6, 2, 3, 6, 4, 5, 6, 6, 4, 5, 6, 6, 6}, 0, 0, 0, 0, 1, 1, 0)
}

func TestFirstLoop(t *testing.T) {
	for _, c := range []struct {
		p           impl.Plain
		most        int64
		head, round string
	}{
		{cycle(1, 0), 1, "", "0"}, {cycle(1, 0), 3, "", "0"}, {cycle(64, 63), 1, "", "0"}, {lastLetter(), 1, "", "2"}, {lastLetter(), 3, "", "2"},
		{plain(4, make([]int64, 4), 1), 3, "", "0"}, {counter(2, 1), 2, "", "1"}, {tail(64, 63), 1, "", "0"},
		{backBy(0, 1, 1), 3, "", "011"}, {backBy(1, 0, 1), 3, "", "101"}, {backBy(0, 1, 1), 2, "", ""}, {backBy(1, 1, 1), 1, "", "1"},
		// A longer Round without a Head is before a Head, if it can be so long.
		{reading(0, 0, 0), 1, "", "0"}, {reading(1, 0, 1), 2, "", "10"}, {reading(1, 0, 1), 1, "", ""}, {reading(1, 0, 0), 1, "1", "0"}, {reading(1, 0, 0), 2, "1", "0"}, {reading(1, 0, 0), 3, "", "100"},
		{reading(0, 0, 1), 1, "", ""}, {reading(0, 0, 1), 2, "0", "01"}, {reading(1, 1, 0), 2, "1", "10"}, {reading(0, 1, 1), 1, "0", "1"},
		// All letters of the Head are before those of the Round.
		{twoLoops(), 2, "00", "1"}, {twoLoops(), 3, "00", "1"}, {twoLoops(), 1, "", ""},
	} {
		first, ok := impl.FirstLoop(c.p, c.most)
		what := fmt.Sprint("FirstLoop ", c.p, c.most)
		if c.round == "" {
			wantNoLoop(t, what, first, ok)
		} else {
			wantLoop(t, what, first, ok, loop(c.head, c.round))
		}
	}
	for _, p := range []impl.Plain{cycle(1), cycle(64), plain(4, make([]int64, 8), 0, 1), tail(5, 0, 1, 2), plain(1, []int64{1, 1}, 1, 0)} {
		for most := int64(1); most <= 3; most++ {
			first, ok := impl.FirstLoop(p, most)
			wantNoLoop(t, fmt.Sprint("FirstLoop ", p, most), first, ok)
		}
	}
	for _, most := range append(others(), 0, 4) {
		first, ok := impl.FirstLoop(cycle(1, 0), most)
		wantNoLoop(t, fmt.Sprint("FirstLoop ", most), first, ok)
	}
}

// seldomRead returns a machine with one End to which the letters of a loop lead again and again, and that most other
// letters leave.
func seldomRead(r *rand.Rand, l impl.Loop, letters int64) impl.Plain {
	path := slices.Concat(l.Head, l.Round)
	last := int64(len(path))
	p := cycle(last + 1)
	p.Letters, p.Next = letters, slices.Repeat([]int64{last}, int((last+1)*letters))
	for at := range last * letters {
		if r.Intn(4) == 0 {
			p.Next[at] = r.Int63n(p.States)
		}
	}
	for state, letter := range path {
		p.Next[int64(state)*letters+letter] = int64(state) + 1
	}
	p.Next[(last-1)*letters+path[last-1]] = int64(len(l.Head))
	p.Ends[last-1] = true
	return p
}

func TestFirstLoopIsTheFirst(t *testing.T) {
	r := rand.New(rand.NewSource(21))
	heads, failures := 0, 0
	for range 300 {
		letters := 1 + r.Int63n(3)
		p := seldomRead(r, impl.Loop{Head: randomWord(r, letters, 3), Round: append(randomWord(r, letters, 2), r.Int63n(letters))}, letters)
		for most := 1; most <= 3 && p.Letters < 3 || most < 3; most++ {
			known, isThere := knownFirstLoop(p, most)
			first, ok := impl.FirstLoop(p, int64(most))
			what := fmt.Sprint("FirstLoop ", p, most)
			if !isThere {
				failures++
				wantNoLoop(t, what, first, ok)
				continue
			}
			wantLoop(t, what, first, ok, known)
			if len(known.Head)+len(known.Round) > 2 {
				heads++
			}
		}
	}
	if heads < 10 || failures < 50 {
		t.Errorf("%d long loops, %d failures", heads, failures)
	}
}

func TestLoopsThatAreNone(t *testing.T) {
	wantNone := func(what string, p impl.Plain, l impl.Loop, letters int64) {
		t.Helper()
		normal, ok := impl.NormalLoop(l, letters)
		wantNoLoop(t, "NormalLoop of "+what, normal, ok)
		letter, ok := impl.LetterAt(l, letters, 0)
		wantFailure(t, "LetterAt of "+what, letter, ok)
		states, ok := impl.StatesOfLoop(p, l)
		wantListFailure(t, "StatesOfLoop of "+what, states, ok)
		read, ok := impl.ReadsLoop(p, l)
		wantFailure(t, "ReadsLoop of "+what, read, ok)
	}
	for what, l := range invalidLoops() {
		wantNone(what, lastLetter(), l, 3)
	}
	for _, letters := range append(others(), 0, 5) {
		p := impl.Plain{States: 1, Letters: letters, Ends: []bool{true}}
		if letters == 5 {
			p.Next = make([]int64, 5)
		}
		wantNone(fmt.Sprint(letters, " letters"), p, loop("0", "0"), letters)
	}
	for what, p := range invalidPlains() {
		states, ok := impl.StatesOfLoop(p, loop("0", "0"))
		wantListFailure(t, "StatesOfLoop with "+what, states, ok)
		read, ok := impl.ReadsLoop(p, loop("0", "0"))
		wantFailure(t, "ReadsLoop with "+what, read, ok)
		first, ok := impl.FirstLoop(p, 1)
		wantNoLoop(t, "FirstLoop with "+what, first, ok)
	}
	states, ok := impl.StatesOfLoop(even(), loop("", "1"))
	wantListFailure(t, "StatesOfLoop with a letter past those of the machine", states, ok)
}
