package tests

import (
	"fmt"
	"math"
	"math/rand"
	"slices"
	"testing"

	"loop.example/g01357/impl"
)

// sided returns a machine with two sides, with ends told as 0 and 1, and arcs as From, To, In and Out.
func sided(letters int64, ends string, arcs ...[4]int64) impl.Sided {
	s := impl.Sided{States: int64(len(ends)), Letters: letters}
	for _, end := range ends {
		s.Ends = append(s.Ends, end == '1')
	}
	for _, a := range arcs {
		s.Arcs = append(s.Arcs, impl.PairArc{From: a[0], To: a[1], In: a[2], Out: a[3]})
	}
	return s
}

// beside reads 0 beside 1: the example of the document.
func beside() impl.Sided { return sided(2, "1", [4]int64{0, 0, 0, 1}) }

// sidedArcs returns a machine of one state with so many equal arcs that read 0 beside 1.
func sidedArcs(arcs int) impl.Sided {
	return sided(2, "1", slices.Repeat([][4]int64{{0, 0, 0, 1}}, arcs)...)
}

// sidedStates returns a machine of so many states without arcs.
func sidedStates(states int) impl.Sided { return sided(2, zeros(states-1)+"1") }

func validSided() map[string]impl.Sided {
	return map[string]impl.Sided{
		"the example":         beside(),
		"one state, no arcs":  sided(1, "0"),
		"8 states, 4 letters": sided(4, "00000001", [4]int64{7, 7, 3, 3}, [4]int64{0, 7, -1, 3}, [4]int64{7, 0, 3, -1}),
		"48 arcs":             sidedArcs(48),
		"an arc of nothing":   sided(1, "1", [4]int64{0, 0, -1, -1}),
	}
}

func invalidSided() map[string]impl.Sided {
	all := map[string]impl.Sided{
		"nothing": {}, "no states": sided(2, ""), "9 states": sidedStates(9), "49 arcs": sidedArcs(49),
		"too few ends":  {States: 2, Letters: 1, Ends: make([]bool, 1)},
		"too many ends": {States: 2, Letters: 1, Ends: make([]bool, 3)},
		"no ends":       {States: 1, Letters: 1},
		"many arcs":     sidedArcs(1000),
	}
	for _, n := range append(others(), 0, 5) {
		all[fmt.Sprint("letters ", n)] = impl.Sided{States: 1, Letters: n, Ends: []bool{true}}
		all[fmt.Sprint("letters ", n, " and an arc")] = impl.Sided{States: 1, Letters: n, Ends: []bool{true}, Arcs: []impl.PairArc{{}}}
	}
	for _, n := range append(others(), 3, 9) {
		all[fmt.Sprint("states ", n)] = impl.Sided{States: n, Letters: 2, Ends: []bool{true, true}, Arcs: []impl.PairArc{{}}}
	}
	for i, name := range []string{"From", "To", "In", "Out"} {
		for _, n := range []int64{-2, 3, math.MinInt64, math.MaxInt64} {
			arc := [4]int64{}
			arc[i] = n
			all[fmt.Sprint(name, n)] = sided(3, "001", [4]int64{0, 1, 2, 2}, arc)
		}
	}
	all["From -1"], all["To -1"] = sided(2, "1", [4]int64{-1, 0, 0, 0}), sided(2, "1", [4]int64{0, -1, 0, 0})
	return all
}

func TestValidSided(t *testing.T) {
	wantValid(t, "ValidSided", impl.ValidSided, validSided(), invalidSided())
}

func TestSameSided(t *testing.T) {
	wantSameAlone(t, "SameSided", impl.SameSided, beside(), invalidSided())
	of := func() impl.Sided { return sided(2, "01", [4]int64{0, 1, 0, 1}, [4]int64{1, 0, -1, 1}) }
	example := of()
	want(t, "SameSided of equal machines", impl.SameSided(example, of()), true)
	for i := range 6 {
		other := of()
		arc := &other.Arcs[1]
		*[]*int64{&other.States, &other.Letters, &arc.From, &arc.To, &arc.In, &arc.Out}[i]++
		want(t, fmt.Sprint("SameSided of machines with another part ", i), impl.SameSided(example, other), false)
	}
	for what, other := range map[string]impl.Sided{
		"other ends":             sided(2, "11", [4]int64{0, 1, 0, 1}, [4]int64{1, 0, -1, 1}),
		"arcs in another order":  sided(2, "01", [4]int64{1, 0, -1, 1}, [4]int64{0, 1, 0, 1}),
		"one arc less":           sided(2, "01", [4]int64{0, 1, 0, 1}),
		"one arc more":           sided(2, "01", [4]int64{0, 1, 0, 1}, [4]int64{1, 0, -1, 1}, [4]int64{1, 0, -1, 1}),
		"both sides of all arcs": sided(2, "01", [4]int64{0, 1, 1, 0}, [4]int64{1, 0, 1, -1}),
	} {
		want(t, "SameSided of machines with "+what, impl.SameSided(example, other), false)
	}
	want(t, "SameSided of nil lists and empty ones", impl.SameSided(impl.Sided{}, impl.Sided{Arcs: []impl.PairArc{}, Ends: []bool{}}), true)
}

// knownReadsPair tells for each number of letters of both words in which states a machine can be behind them: each arc is
// tried at each of these places until nothing becomes more.
func knownReadsPair(s impl.Sided, in, out []int64) bool {
	type place struct {
		state   int64
		in, out int
	}
	behind := func(word []int64, at int, letter int64) int {
		switch {
		case letter < 0:
			return at
		case at < len(word) && word[at] == letter:
			return at + 1
		}
		return -1
	}
	there := map[place]bool{{}: true}
	for again := true; again; {
		again = false
		for i := range len(in) + 1 {
			for k := range len(out) + 1 {
				for _, arc := range s.Arcs {
					to := place{arc.To, behind(in, i, arc.In), behind(out, k, arc.Out)}
					if there[place{arc.From, i, k}] && to.in >= 0 && to.out >= 0 && !there[to] {
						there[to], again = true, true
					}
				}
			}
		}
	}
	for state, end := range s.Ends {
		if end && there[place{int64(state), len(in), len(out)}] {
			return true
		}
	}
	return false
}

// randomSided returns a machine of 1 to most states; each side of an arc has a letter, or now and then none.
func randomSided(r *rand.Rand, letters, most int64) impl.Sided {
	s := impl.Sided{States: 1 + r.Int63n(most), Letters: letters}
	for range s.States {
		s.Ends = append(s.Ends, r.Intn(2) == 0)
	}
	letter := func() int64 { return max(-1, r.Int63n(letters+2)-2) }
	for range r.Intn(10) {
		s.Arcs = append(s.Arcs, impl.PairArc{From: r.Int63n(s.States), To: r.Int63n(s.States), In: letter(), Out: letter()})
	}
	return s
}

// eachPair calls check with all pairs of words of at most most letters.
func eachPair(letters int64, most int, check func(in, out []int64)) {
	for _, in := range wordsUpTo(letters, most) {
		for _, out := range wordsUpTo(letters, most) {
			check(in, out)
		}
	}
}

// reads reports whether a machine reads a pair, and checks that it can be told.
func reads(t *testing.T, s impl.Sided, in, out []int64) bool {
	t.Helper()
	got, ok := impl.ReadsPair(s, in, out)
	want(t, fmt.Sprint("ReadsPair ", s, in, out, " succeeds"), ok, true)
	return got
}

// rounds has rounds of arcs without letters on both sides, and on either side, and a state that leads nowhere.
func rounds() impl.Sided {
	return sided(2, "0010",
		[4]int64{0, 1, -1, -1}, [4]int64{1, 0, -1, -1}, [4]int64{1, 1, -1, -1},
		[4]int64{0, 0, 0, -1}, [4]int64{1, 1, -1, 1}, [4]int64{1, 2, 1, 0},
		[4]int64{0, 3, 1, 1}, [4]int64{3, 3, -1, -1}, [4]int64{3, 3, 0, 0})
}

func TestReadsPair(t *testing.T) {
	twelve, thirteen := zeros(12), zeros(13)
	growing := sided(2, "1", [4]int64{0, 0, 0, -1}, [4]int64{0, 0, -1, 0})
	for _, c := range []struct {
		s        impl.Sided
		in, out  string
		expected bool
	}{
		{beside(), "00", "11", true}, {beside(), "", "", true}, {beside(), "00", "1", false}, {beside(), "0", "11", false},
		{beside(), "0", "0", false}, {beside(), "1", "1", false}, {beside(), "11", "00", false}, {beside(), twelve, "111111111111", true},
		{sided(2, "1"), "", "", true}, {sided(2, "1"), "0", "", false}, {sided(2, "1"), "", "0", false}, {sided(2, "0"), "", "", false},
		{sided(2, "01"), "", "", false}, {sided(2, "0", [4]int64{0, 0, 0, 0}), "0", "0", false},
		{sided(2, "01", [4]int64{0, 1, -1, -1}), "", "", true}, {sided(2, "01", [4]int64{1, 0, -1, -1}), "", "", false},
		{sided(2, "01", [4]int64{0, 1, 1, -1}), "1", "", true}, {sided(2, "01", [4]int64{0, 1, 1, -1}), "1", "1", false},
		{sided(2, "01", [4]int64{0, 1, -1, 1}), "", "1", true}, {sided(2, "01", [4]int64{0, 1, -1, 1}), "1", "1", false},
		{growing, twelve, twelve, true}, {growing, twelve, "", true}, {growing, "", twelve, true}, {growing, "0", "1", false},
		{rounds(), "1", "0", true}, {rounds(), "001", "110", true}, {rounds(), "01", "1110", true}, {rounds(), "00000000001", "11111111110", true},
		{rounds(), "", "", false}, {rounds(), "10", "0", false}, {rounds(), "1", "01", false}, {rounds(), "1", "1", false}, {rounds(), "10", "10", false},
	} {
		what := fmt.Sprint("ReadsPair ", c.s, c.in, "/", c.out)
		want(t, what, reads(t, c.s, spelled(c.in), spelled(c.out)), c.expected)
		want(t, "known "+what, knownReadsPair(c.s, spelled(c.in), spelled(c.out)), c.expected)
	}
	for _, c := range [][2][]int64{
		{spelled(thirteen), nil}, {nil, spelled(thirteen)}, {{2}, nil}, {nil, {2}}, {{-1}, {1}}, {{0}, {-1}}, {{0}, {math.MaxInt64}}, {{math.MinInt64}, nil},
	} {
		got, ok := impl.ReadsPair(beside(), c[0], c[1])
		wantFailure(t, fmt.Sprint("ReadsPair ", c), got, ok)
	}
}

func TestPairsOfRandomMachines(t *testing.T) {
	r := rand.New(rand.NewSource(64))
	read, refused := 0, 0
	for range 300 {
		letters := 1 + r.Int63n(2)
		s := randomSided(r, letters, 4)
		eachPair(letters, 3, func(in, out []int64) {
			expected := knownReadsPair(s, in, out)
			want(t, fmt.Sprint("ReadsPair ", s, in, out), reads(t, s, in, out), expected)
			if expected {
				read++
			} else {
				refused++
			}
		})
	}
	if read < 2000 || refused < 2000 {
		t.Errorf("%d pairs are read, and %d are not", read, refused)
	}
}

func TestOutputsOf(t *testing.T) {
	endless := sided(2, "1", [4]int64{0, 0, -1, 0}, [4]int64{0, 0, -1, 1}, [4]int64{0, 0, 0, -1})
	for _, c := range []struct {
		s        impl.Sided
		in       string
		most     int64
		expected string
	}{
		{beside(), "00", 3, "11"}, {beside(), "00", 2, "11"}, {beside(), "00", 1, ""}, {beside(), "", 0, "-"}, {beside(), "1", 4, ""}, {beside(), "00000", 4, ""},
		{endless, "", 0, "-"}, {endless, "00", 0, "-"}, {endless, "0", 2, "- 0 1 00 01 10 11"}, {endless, "1", 4, ""},
		{sided(1, "1", [4]int64{0, 0, -1, 0}), "", 4, "- 0 00 000 0000"},
		{sided(4, "01", [4]int64{0, 1, 0, 3}, [4]int64{0, 1, 0, 1}, [4]int64{0, 1, 0, 3}, [4]int64{0, 0, -1, 2}, [4]int64{0, 1, 0, -1}), "0", 2, "- 1 2 3 21 22 23"},
		{rounds(), "1", 4, "0 10 110 1110"}, {rounds(), "0", 4, ""}, {sided(2, "0"), "", 4, ""}, {sided(2, "1"), "", 4, "-"},
		{beside(), zeros(12), 4, ""}, {sided(1, "1", [4]int64{0, 0, 0, -1}), zeros(12), 4, "-"},
	} {
		got, ok := impl.OutputsOf(c.s, spelled(c.in), c.most)
		wantSpelledAll(t, fmt.Sprint("OutputsOf ", c), got, ok, c.expected)
	}
	for _, most := range append(others(), 5, 100) {
		got, ok := impl.OutputsOf(beside(), nil, most)
		wantListFailure(t, fmt.Sprint("OutputsOf with most ", most), got, ok)
	}
	for what, in := range map[string][]int64{"13 letters": make([]int64, 13), "another letter": {2}, "the letter -1": {-1}} {
		got, ok := impl.OutputsOf(beside(), in, 4)
		wantListFailure(t, "OutputsOf with "+what, got, ok)
	}
}

func TestOutputsOfRandomMachines(t *testing.T) {
	r := rand.New(rand.NewSource(65))
	several := 0
	for range 600 {
		letters, most := 1+r.Int63n(4), r.Intn(5)
		s, in := randomSided(r, letters, 4), randomWord(r, letters, 4)
		expected := [][]int64{}
		for _, out := range wordsUpTo(letters, most) {
			if knownReadsPair(s, in, out) {
				expected = append(expected, out)
			}
		}
		got, ok := impl.OutputsOf(s, in, int64(most))
		wantSpelledAll(t, fmt.Sprint("OutputsOf ", s, in, most), got, ok, spellings(expected))
		wantWordsInOrder(t, "OutputsOf", got)
		if len(got) > 1 {
			several++
		}
	}
	if several < 60 {
		t.Errorf("just %d of 600 machines have several outputs", several)
	}
}

func wantSided(t *testing.T, what string, got impl.Sided, ok bool, expected impl.Sided) {
	t.Helper()
	want(t, what+" succeeds", ok, true)
	wantSame(t, what, got, expected)
}

func wantNoSided(t *testing.T, what string, got impl.Sided, ok bool) {
	t.Helper()
	if ok || got.States != 0 || got.Letters != 0 || len(got.Arcs)+len(got.Ends) != 0 {
		t.Errorf("%s: got %v, %v, want a failure", what, got, ok)
	}
}

func TestTurnSided(t *testing.T) {
	got, ok := impl.TurnSided(sided(3, "010", [4]int64{0, 1, 2, 0}, [4]int64{1, 2, -1, 1}, [4]int64{2, 0, 0, -1}, [4]int64{2, 2, -1, -1}))
	wantSided(t, "TurnSided", got, ok, sided(3, "010", [4]int64{0, 1, 0, 2}, [4]int64{1, 2, 1, -1}, [4]int64{2, 0, -1, 0}, [4]int64{2, 2, -1, -1}))
	r := rand.New(rand.NewSource(66))
	for range 200 {
		letters := 1 + r.Int63n(2)
		s := randomSided(r, letters, 8)
		turned, ok := impl.TurnSided(s)
		want(t, "TurnSided succeeds", ok, true)
		again, ok := impl.TurnSided(turned)
		wantSided(t, "TurnSided twice", again, ok, s)
		eachPair(letters, 2, func(in, out []int64) {
			want(t, fmt.Sprint("ReadsPair turned ", s, in, out), reads(t, turned, out, in), reads(t, s, in, out))
		})
	}
}

func TestChainSided(t *testing.T) {
	got, ok := impl.ChainSided(beside(), sided(2, "1", [4]int64{0, 0, 1, 0}))
	wantSided(t, "ChainSided there and back", got, ok, sided(2, "1", [4]int64{0, 0, 0, 0}))
	got, ok = impl.ChainSided(beside(), beside())
	wantSided(t, "ChainSided of letters that do not meet", got, ok, sided(2, "1"))
	a := sided(2, "011", [4]int64{0, 1, 0, 1}, [4]int64{1, 2, 1, -1}, [4]int64{2, 0, -1, 0}, [4]int64{2, 2, -1, -1}, [4]int64{0, 2, -1, 1})
	b := sided(2, "10", [4]int64{0, 1, -1, 0}, [4]int64{1, 0, 1, 1}, [4]int64{0, 0, 1, -1}, [4]int64{1, 1, 0, -1}, [4]int64{1, 0, -1, -1})
	got, ok = impl.ChainSided(a, b)
	wantSided(t, "ChainSided of arcs without letters", got, ok, sided(2, "001010",
		// Arcs with an Out of a, and with the same In of b.
		[4]int64{1, 2, 0, 1}, [4]int64{0, 2, 0, -1}, [4]int64{5, 1, -1, -1}, [4]int64{1, 4, -1, 1}, [4]int64{0, 4, -1, -1},
		// Arcs without an Out of a, for each state of b.
		[4]int64{2, 4, 1, -1}, [4]int64{3, 5, 1, -1}, [4]int64{4, 4, -1, -1}, [4]int64{5, 5, -1, -1},
		// Arcs without an In of b, for each state of a.
		[4]int64{0, 1, -1, 0}, [4]int64{1, 0, -1, -1}, [4]int64{2, 3, -1, 0}, [4]int64{3, 2, -1, -1}, [4]int64{4, 5, -1, 0}, [4]int64{5, 4, -1, -1}))
}

// hasLetters reports whether all arcs of a machine have a letter on a side.
func hasLetters(s impl.Sided, letterOf func(impl.PairArc) int64) bool {
	return !slices.ContainsFunc(s.Arcs, func(arc impl.PairArc) bool { return letterOf(arc) < 0 })
}

// TestChainsOfRandomMachines tries out words between both: no more letters than those of in are needed if each arc of the
// former has an In, and no more than those of out if each arc of the latter has an Out; in other chains, longer words
// between both can be read besides.
func TestChainsOfRandomMachines(t *testing.T) {
	r := rand.New(rand.NewSource(67))
	read, refused, more := 0, 0, 0
	for range 1500 {
		letters := 1 + r.Int63n(2)
		a, b := randomSided(r, letters, 3), randomSided(r, letters, 3)
		chain, ok := impl.ChainSided(a, b)
		if !ok {
			continue
		}
		isExact := hasLetters(a, func(arc impl.PairArc) int64 { return arc.In }) || hasLetters(b, func(arc impl.PairArc) int64 { return arc.Out })
		eachPair(letters, 2, func(in, out []int64) {
			got := reads(t, chain, in, out)
			expected := slices.ContainsFunc(wordsUpTo(letters, 3), func(word []int64) bool {
				return knownReadsPair(a, in, word) && knownReadsPair(b, word, out)
			})
			switch {
			case got != expected && (isExact || expected):
				t.Errorf("ReadsPair %v %v of the chain of %v and %v: got %v", in, out, a, b, got)
			case got && !expected:
				more++
			case got:
				read++
			default:
				refused++
			}
		})
	}
	if read < 1000 || refused < 1000 || more > read/10 {
		t.Errorf("%d pairs are read, %d are not, and %d by longer words", read, refused, more)
	}
}

func TestChainsAtLimits(t *testing.T) {
	wantStates := func(a, b int, isTold bool) {
		t.Helper()
		got, ok := impl.ChainSided(sidedStates(a), sidedStates(b))
		if isTold {
			wantSided(t, fmt.Sprint("ChainSided of states ", a, b), got, ok, sidedStates(a*b))
		} else {
			wantNoSided(t, fmt.Sprint("ChainSided of states ", a, b), got, ok)
		}
	}
	wantStates(8, 1, true)
	wantStates(1, 8, true)
	wantStates(4, 2, true)
	wantStates(3, 3, false)
	wantStates(8, 2, false)
	wantStates(8, 8, false)
	turned := func(arcs int) impl.Sided {
		s, _ := impl.TurnSided(sidedArcs(arcs))
		return s
	}
	for _, c := range [][2]int{{48, 1}, {1, 48}, {6, 8}, {7, 7}, {7, 6}, {48, 2}, {48, 48}, {0, 48}} {
		got, ok := impl.ChainSided(sidedArcs(c[0]), turned(c[1]))
		if arcs := c[0] * c[1]; arcs <= 48 {
			wantSided(t, fmt.Sprint("ChainSided of arcs ", c), got, ok, sided(2, "1", slices.Repeat([][4]int64{{0, 0, 0, 0}}, arcs)...))
		} else {
			wantNoSided(t, fmt.Sprint("ChainSided of arcs ", c), got, ok)
		}
	}
	// Each arc without a letter between both counts for each state of the other one.
	silent := func(arcs int) impl.Sided { return sided(2, "1", slices.Repeat([][4]int64{{0, 0, 0, -1}}, arcs)...) }
	got, ok := impl.ChainSided(silent(12), sidedStates(4))
	want(t, "ChainSided of 12 arcs for 4 states succeeds", ok && len(got.Arcs) == 48, true)
	got, ok = impl.ChainSided(silent(13), sidedStates(4))
	wantNoSided(t, "ChainSided of 13 arcs for 4 states", got, ok)
	loud, _ := impl.TurnSided(silent(13))
	got, ok = impl.ChainSided(sidedStates(4), loud)
	wantNoSided(t, "ChainSided of 4 states for 13 arcs", got, ok)
}

func TestEitherSided(t *testing.T) {
	got, ok := impl.EitherSided(beside(), sided(2, "0", [4]int64{0, 0, 1, 0}))
	wantSided(t, "EitherSided", got, ok, sided(2, "110", [4]int64{1, 1, 0, 1}, [4]int64{2, 2, 1, 0}, [4]int64{0, 1, 0, 1}, [4]int64{0, 2, 1, 0}))
	got, ok = impl.EitherSided(sided(3, "01", [4]int64{1, 0, 2, -1}, [4]int64{0, 1, -1, 2}, [4]int64{0, 0, 0, 0}), sided(3, "010", [4]int64{2, 0, 1, 1}, [4]int64{0, 1, -1, -1}))
	wantSided(t, "EitherSided of arcs in order", got, ok, sided(3, "001010",
		[4]int64{2, 1, 2, -1}, [4]int64{1, 2, -1, 2}, [4]int64{1, 1, 0, 0}, [4]int64{5, 3, 1, 1}, [4]int64{3, 4, -1, -1},
		[4]int64{0, 2, -1, 2}, [4]int64{0, 1, 0, 0}, [4]int64{0, 4, -1, -1}))
	for _, ends := range []string{"000", "101", "110", "111"} {
		got, ok = impl.EitherSided(sided(1, ends[1:2]), sided(1, ends[2:]))
		wantSided(t, "EitherSided of ends "+ends, got, ok, sided(1, ends))
	}
}

func TestEitherOfRandomMachines(t *testing.T) {
	r := rand.New(rand.NewSource(68))
	read, refused := 0, 0
	for range 300 {
		letters := 1 + r.Int63n(2)
		a, b := randomSided(r, letters, 4), randomSided(r, letters, 3)
		either, ok := impl.EitherSided(a, b)
		want(t, "EitherSided succeeds", ok, true)
		eachPair(letters, 3, func(in, out []int64) {
			expected := knownReadsPair(a, in, out) || knownReadsPair(b, in, out)
			want(t, fmt.Sprint("ReadsPair of either ", a, b, in, out), reads(t, either, in, out), expected)
			if expected {
				read++
			} else {
				refused++
			}
		})
	}
	if read < 2000 || refused < 2000 {
		t.Errorf("%d pairs are read, and %d are not", read, refused)
	}
}

func TestEitherAtLimits(t *testing.T) {
	for _, c := range [][2]int{{3, 4}, {6, 1}, {1, 6}, {4, 4}, {7, 1}, {1, 7}, {8, 8}} {
		got, ok := impl.EitherSided(sidedStates(c[0]), sidedStates(c[1]))
		if c[0]+c[1] <= 7 {
			want(t, fmt.Sprint("EitherSided of states ", c, " succeeds"), ok && got.States == 8 && len(got.Ends) == 8, true)
		} else {
			wantNoSided(t, fmt.Sprint("EitherSided of states ", c), got, ok)
		}
	}
	// Each arc from the state 0 comes twice, and others once.
	other := func(arcs int) impl.Sided { return sided(2, "01", slices.Repeat([][4]int64{{1, 1, 0, 0}}, arcs)...) }
	for _, c := range []struct {
		a, b impl.Sided
		arcs int
	}{
		{sidedArcs(24), sidedArcs(0), 48}, {sidedArcs(0), sidedArcs(24), 48}, {sidedArcs(12), sidedArcs(12), 48}, {other(48), sidedArcs(0), 48}, {other(24), other(24), 48}, {other(2), sidedArcs(23), 48},
		{sidedArcs(25), sidedArcs(0), 0}, {sidedArcs(12), sidedArcs(13), 0}, {other(48), other(1), 0}, {other(1), other(48), 0}, {other(1), sidedArcs(24), 0}, {sidedArcs(48), sidedArcs(48), 0},
	} {
		got, ok := impl.EitherSided(c.a, c.b)
		if c.arcs > 0 {
			want(t, fmt.Sprint("arcs of EitherSided ", c), len(got.Arcs), c.arcs)
			want(t, fmt.Sprint("EitherSided succeeds ", c), ok, true)
		} else {
			wantNoSided(t, fmt.Sprint("EitherSided ", c), got, ok)
		}
	}
}

// TestInvalidSidedFail holds for all functions that receive a machine with two sides.
func TestInvalidSidedFail(t *testing.T) {
	for what, s := range invalidSided() {
		is, ok := impl.ReadsPair(s, nil, nil)
		wantFailure(t, "ReadsPair of "+what, is, ok)
		words, ok := impl.OutputsOf(s, nil, 4)
		wantListFailure(t, "OutputsOf "+what, words, ok)
		got, ok := impl.TurnSided(s)
		wantNoSided(t, "TurnSided of "+what, got, ok)
		for name, f := range map[string]func(a, b impl.Sided) (impl.Sided, bool){"ChainSided": impl.ChainSided, "EitherSided": impl.EitherSided} {
			good := sided(max(1, min(4, s.Letters)), "1")
			for _, pair := range [][2]impl.Sided{{s, good}, {good, s}, {s, s}} {
				got, ok = f(pair[0], pair[1])
				wantNoSided(t, name+" of "+what, got, ok)
			}
		}
	}
	for letters := int64(1); letters <= 4; letters++ {
		for others := int64(1); others <= 4; others++ {
			a, b := sided(letters, "1"), sided(others, "1")
			_, first := impl.ChainSided(a, b)
			_, second := impl.EitherSided(a, b)
			want(t, fmt.Sprint("ChainSided of letters ", letters, others), first, letters == others)
			want(t, fmt.Sprint("EitherSided of letters ", letters, others), second, letters == others)
			if letters != others {
				got, ok := impl.ChainSided(a, b)
				wantNoSided(t, "ChainSided of unequal letters", got, ok)
				got, ok = impl.EitherSided(a, b)
				wantNoSided(t, "EitherSided of unequal letters", got, ok)
			}
		}
	}
}
