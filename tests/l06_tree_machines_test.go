package tests

import (
	"fmt"
	"math"
	"math/rand"
	"slices"
	"strings"
	"testing"

	"loop.example/g01357/impl"
)

// allTrees returns a machine of one state that reads all trees or none.
func allTrees(letters int, end string) impl.TreeMachine {
	return treeMachine(make([]int64, letters), []int64{0}, end)
}

func validTrees() map[string]impl.TreeMachine {
	return map[string]impl.TreeMachine{
		"an even number of leaves": evenLeaves(), "one state": allTrees(1, "0"), "4 letters": allTrees(4, "1"), "16 states": leafCounter(16, 3),
		"16 states, all ends":  treeMachine([]int64{15, 0, 15, 0}, slices.Repeat([]int64{15}, 256), strings.Repeat("1", 16)),
		"states without trees": treeMachine([]int64{1}, slices.Repeat([]int64{1}, 9), "101"),
	}
}

func TestValidTrees(t *testing.T) {
	wantValid(t, "ValidTrees", impl.ValidTrees, validTrees(), invalidTrees())
}

func TestSameTrees(t *testing.T) {
	wantSameAlone(t, "SameTrees", impl.SameTrees, evenLeaves(), invalidTrees())
	want(t, "SameTrees of equal machines", impl.SameTrees(evenLeaves(), evenLeaves()), true)
	for i := range 5 {
		other := evenLeaves()
		*[]*int64{&other.States, &other.Letters, &other.Leaves[0], &other.Next[0], &other.Next[3]}[i]++
		want(t, fmt.Sprint("SameTrees of machines with another part ", i), impl.SameTrees(evenLeaves(), other), false)
	}
	for what, other := range map[string]impl.TreeMachine{
		"other ends": treeMachine([]int64{1}, []int64{0, 1, 1, 0}, "11"), "one leaf more": treeMachine([]int64{1, 1}, []int64{0, 1, 1, 0}, "10"),
		"one next less": treeMachine([]int64{1}, []int64{0, 1, 1}, "10"), "one end more": treeMachine([]int64{1}, []int64{0, 1, 1, 0}, "100"),
	} {
		want(t, "SameTrees of machines with "+what, impl.SameTrees(evenLeaves(), other), false)
	}
	want(t, "SameTrees of nil lists and empty ones", impl.SameTrees(impl.TreeMachine{}, impl.TreeMachine{Leaves: []int64{}, Next: []int64{}, Ends: []bool{}}), true)
}

// wantRead checks what a machine tells of a tree.
func wantRead(t *testing.T, m impl.TreeMachine, list []int64, state int64, read bool) {
	t.Helper()
	what := fmt.Sprint(m, list)
	got, ok := impl.StateOfTree(m, list)
	wantCount(t, "StateOfTree "+what, got, ok, state)
	is, ok := impl.ReadsTree(m, list)
	want(t, "ReadsTree "+what+" succeeds", ok, true)
	want(t, "ReadsTree "+what, is, read)
}

func TestReadsTree(t *testing.T) {
	// The former state counts more than the latter one.
	lopsided := treeMachine([]int64{0, 1, 2}, []int64{0, 1, 2, 2, 0, 1, 1, 1, 0}, "010")
	for _, c := range []struct {
		m     impl.TreeMachine
		tree  string
		state int64
	}{
		{evenLeaves(), "0", 1}, {evenLeaves(), "(00)", 0}, {evenLeaves(), "(0(00))", 1}, {evenLeaves(), "((00)(00))", 0}, {allTrees(4, "1"), "(3(21))", 0}, {allTrees(4, "0"), "3", 0},
		{lopsided, "0", 0}, {lopsided, "1", 1}, {lopsided, "2", 2}, {lopsided, "(01)", 1}, {lopsided, "(10)", 2}, {lopsided, "(12)", 1}, {lopsided, "(21)", 1}, {lopsided, "(02)", 2}, {lopsided, "(20)", 1}, {lopsided, "(11)", 0},
		{lopsided, "((10)0)", 1}, {lopsided, "(1(00))", 2}, {lopsided, "((12)(20))", 0}, {lopsided, "(0(1(20)))", 0}, {lopsided, "(((02)1)0)", 2},
		{leafCounter(16, 12), "((((00)0)(00))(((00)0)((00)(00))))", 12}, {fullTrees(16, 3), "(((00)(00))((00)(00)))", 3}, {fullTrees(16, 3), "(((00)(00))((00)0))", 15},
	} {
		wantRead(t, c.m, tree(c.tree), c.state, c.m.Ends[c.state])
		want(t, "known state of "+c.tree, knownState(c.m, tree(c.tree)), c.state)
	}
	for leaves := 1; leaves <= 12; leaves++ {
		wantRead(t, leafCounter(16, 12), comb(leaves, true), int64(leaves), leaves == 12)
		wantRead(t, leafCounter(16, 12), comb(leaves, false), int64(leaves), leaves == 12)
	}
}

func TestRandomMachinesReadTrees(t *testing.T) {
	r := rand.New(rand.NewSource(9))
	trees := map[int64][][]int64{1: treesUpTo(1, 7), 2: treesUpTo(2, 4), 3: treesUpTo(3, 3)}
	for range 150 {
		m := randomTrees(r, 1+r.Int63n(3), 6)
		other, ok := impl.OtherTrees(m)
		wantOther := impl.TreeMachine{States: m.States, Letters: m.Letters, Leaves: m.Leaves, Next: m.Next}
		for _, end := range m.Ends {
			wantOther.Ends = append(wantOther.Ends, !end)
		}
		wantTrees(t, fmt.Sprint("OtherTrees ", m), other, ok, wantOther)
		again, ok := impl.OtherTrees(other)
		wantTrees(t, fmt.Sprint("OtherTrees twice ", m), again, ok, m)
		for _, list := range trees[m.Letters] {
			wantRead(t, m, list, knownState(m, list), knownTreeRead(m, list))
			wantRead(t, other, list, knownState(m, list), !knownTreeRead(m, list))
		}
	}
}

func TestTreesThatAreNotRead(t *testing.T) {
	for letters := range 4 {
		m := allTrees(letters+1, "1")
		for what, list := range invalidLists(int64(letters + 1)) {
			state, ok := impl.StateOfTree(m, list)
			wantFailure(t, "StateOfTree of "+what, state, ok)
			read, ok := impl.ReadsTree(m, list)
			wantFailure(t, "ReadsTree of "+what, read, ok)
		}
	}
	for what, bad := range invalidTrees() {
		state, ok := impl.StateOfTree(bad, []int64{0})
		wantFailure(t, "StateOfTree with "+what, state, ok)
		read, ok := impl.ReadsTree(bad, []int64{0})
		wantFailure(t, "ReadsTree with "+what, read, ok)
		m, ok := impl.OtherTrees(bad)
		wantNoTrees(t, "OtherTrees with "+what, m, ok)
		m, ok = impl.LeastTrees(bad)
		wantNoTrees(t, "LeastTrees with "+what, m, ok)
		m, ok = impl.MeetTrees(bad, evenLeaves())
		wantNoTrees(t, "MeetTrees with "+what, m, ok)
		m, ok = impl.MeetTrees(evenLeaves(), bad)
		wantNoTrees(t, "MeetTrees behind one with "+what, m, ok)
		m, ok = impl.MeetTrees(bad, bad)
		wantNoTrees(t, "MeetTrees twice with "+what, m, ok)
		count, ok := impl.CountTreesRead(bad, 1)
		wantFailure(t, "CountTreesRead with "+what, count, ok)
		list, ok := impl.FirstTree(bad)
		wantListFailure(t, "FirstTree with "+what, list, ok)
		has, ok := impl.WordHasTree(bad, []int64{0})
		wantFailure(t, "WordHasTree with "+what, has, ok)
	}
}

// knownMeet returns the machine of all pairs.
func knownMeet(a, b impl.TreeMachine) impl.TreeMachine {
	m := impl.TreeMachine{States: a.States * b.States, Letters: a.Letters}
	number := func(i, k int64) int64 { return i*b.States + k }
	for letter, state := range a.Leaves {
		m.Leaves = append(m.Leaves, number(state, b.Leaves[letter]))
	}
	for i := range a.States {
		for k := range b.States {
			m.Ends = append(m.Ends, a.Ends[i] && b.Ends[k])
			for j := range a.States {
				for l := range b.States {
					m.Next = append(m.Next, number(a.Next[i*a.States+j], b.Next[k*b.States+l]))
				}
			}
		}
	}
	return m
}

func TestMeetTrees(t *testing.T) {
	meet, ok := impl.MeetTrees(evenLeaves(), allTrees(1, "1"))
	wantTrees(t, "MeetTrees with all", meet, ok, evenLeaves())
	// The pairs are 0 0, 0 1, 1 0 and 1 1; the latter machine reads trees with a leaf on the left.
	left := treeMachine([]int64{0, 1}, []int64{1, 1, 0, 0}, "01")
	meet, ok = impl.MeetTrees(treeMachine([]int64{1, 0}, []int64{0, 1, 1, 0}, "10"), left)
	wantTrees(t, "MeetTrees", meet, ok, treeMachine([]int64{2, 1}, []int64{1, 1, 3, 3, 0, 0, 2, 2, 3, 3, 1, 1, 2, 2, 0, 0}, "0100"))
	r := rand.New(rand.NewSource(10))
	trees := map[int64][][]int64{1: treesUpTo(1, 6), 2: treesUpTo(2, 4)}
	for range 200 {
		letters := 1 + r.Int63n(2)
		a, b := randomTrees(r, letters, 6), randomTrees(r, letters, 4)
		meet, ok := impl.MeetTrees(a, b)
		what := fmt.Sprint("MeetTrees ", a, b)
		if a.States*b.States > 16 {
			wantNoTrees(t, what, meet, ok)
			continue
		}
		wantTrees(t, what, meet, ok, knownMeet(a, b))
		for _, list := range trees[letters] {
			wantRead(t, meet, list, knownState(a, list)*b.States+knownState(b, list), knownTreeRead(a, list) && knownTreeRead(b, list))
		}
	}
}

func TestMeetTreesAtLimits(t *testing.T) {
	for _, c := range []struct {
		a, b int64
		ok   bool
	}{
		{16, 1, true}, {1, 16, true}, {4, 4, true}, {2, 8, true}, {8, 2, true}, {3, 5, true}, {1, 1, true}, {2, 9, false}, {17, 1, false}, {1, 17, false}, {3, 6, false}, {6, 3, false}, {16, 2, false}, {2, 16, false}, {5, 4, false}, {16, 16, false},
	} {
		what := fmt.Sprint("MeetTrees of states ", c.a, ", ", c.b)
		meet, ok := impl.MeetTrees(leafCounter(c.a, 0), leafCounter(c.b, 0))
		if !c.ok {
			wantNoTrees(t, what, meet, ok)
			continue
		}
		wantTrees(t, what, meet, ok, knownMeet(leafCounter(c.a, 0), leafCounter(c.b, 0)))
	}
	for a := 1; a <= 4; a++ {
		for b := 1; b <= 4; b++ {
			_, ok := impl.MeetTrees(allTrees(a, "1"), allTrees(b, "1"))
			want(t, fmt.Sprint("MeetTrees of letters ", a, ", ", b, " succeeds"), ok, a == b)
		}
	}
}

// knownLeastTrees returns the smallest machine: pairs of found states are told apart one after another, until no more are.
func knownLeastTrees(m impl.TreeMachine) impl.TreeMachine {
	found, _ := knownFound(m)
	next := func(i, k int64) int64 { return m.Next[i*m.States+k] }
	told := map[[2]int64]bool{}
	for again := true; again; {
		again = false
		for _, p := range found {
			for _, q := range found {
				isTold := m.Ends[p] != m.Ends[q]
				for _, other := range found {
					isTold = isTold || told[[2]int64{next(p, other), next(q, other)}] || told[[2]int64{next(other, p), next(other, q)}]
				}
				if key := [2]int64{p, q}; isTold && !told[key] {
					told[key], again = true, true
				}
			}
		}
	}
	firsts := []int64{}
	number := func(state int64) int64 {
		return int64(slices.IndexFunc(firsts, func(first int64) bool { return !told[[2]int64{first, state}] }))
	}
	for _, state := range found {
		if number(state) < 0 {
			firsts = append(firsts, state)
		}
	}
	least := impl.TreeMachine{States: int64(len(firsts)), Letters: m.Letters}
	for _, state := range m.Leaves {
		least.Leaves = append(least.Leaves, number(state))
	}
	for _, i := range firsts {
		for _, k := range firsts {
			least.Next = append(least.Next, number(next(i, k)))
		}
		least.Ends = append(least.Ends, m.Ends[i])
	}
	return least
}

func TestLeastTrees(t *testing.T) {
	odd := treeMachine([]int64{0}, []int64{1, 0, 0, 1}, "01")
	for _, c := range []struct {
		what            string
		m, expectedLike impl.TreeMachine
	}{
		{"an even number of leaves", evenLeaves(), odd}, {"an even number of leaves, found in order", odd, odd}, {"16 states", leafCounter(16, 0, 2, 4, 6, 8, 10, 12, 14), odd},
		{"all ends", leafCounter(16, 0, 1, 2, 3, 4, 5, 6, 7, 8, 9, 10, 11, 12, 13, 14, 15), allTrees(1, "1")}, {"no ends", leafCounter(16), allTrees(1, "0")}, {"one state", allTrees(4, "1"), allTrees(4, "1")},
		// The states 0 and 2, though ends, have no trees.
		{"ends that are not found", treeMachine([]int64{1, 1}, slices.Repeat([]int64{1}, 9), "101"), allTrees(2, "0")},
		{"states that are not found between others", treeMachine([]int64{3}, []int64{0, 0, 0, 3, 0, 0, 0, 0, 0, 0, 0, 0, 3, 1, 2, 0}, "1000"), odd},
		// The state of the first letter comes first, and that of the second one is the same if it can't be told apart.
		{"letters in another order", treeMachine([]int64{1, 0}, []int64{0, 0, 0, 1}, "10"), treeMachine([]int64{0, 1}, []int64{0, 1, 1, 1}, "01")},
		{"letters that are alike", treeMachine([]int64{2, 0, 1}, []int64{1, 0, 0, 1, 0, 2, 1, 0, 1}, "000"), allTrees(3, "0")},
		{"two of three letters that are alike", treeMachine([]int64{2, 0, 1}, []int64{1, 0, 2, 0, 1, 2, 2, 2, 2}, "110"), treeMachine([]int64{0, 1, 1}, []int64{0, 0, 0, 1}, "01")},
		// Just beside itself the leaf is not like the others.
		{"the tree with two leaves", treeMachine([]int64{2}, []int64{1, 1, 1, 1, 1, 1, 1, 1, 0}, "100"), treeMachine([]int64{0}, []int64{1, 2, 2, 2, 2, 2, 2, 2, 2}, "010")},
	} {
		least, ok := impl.LeastTrees(c.m)
		wantTrees(t, "LeastTrees of "+c.what, least, ok, c.expectedLike)
		wantSame(t, "known LeastTrees of "+c.what, knownLeastTrees(c.m), c.expectedLike)
	}
	// States are told apart only by trees in front of them, or only by those behind them.
	front := treeMachine([]int64{0, 1, 2}, []int64{3, 3, 3, 3, 3, 3, 3, 3, 4, 3, 3, 3, 3, 3, 3, 3, 3, 3, 3, 3, 3, 3, 3, 3, 3}, "00001")
	for what, m := range map[string]impl.TreeMachine{"front": front, "behind": treeMachine([]int64{0, 1, 2}, []int64{3, 3, 3, 3, 3, 3, 3, 4, 3, 3, 3, 3, 3, 3, 3, 3, 3, 3, 3, 3, 3, 3, 3, 3, 3}, "00001")} {
		least, ok := impl.LeastTrees(m)
		wantTrees(t, "LeastTrees told by trees "+what, least, ok, knownLeastTrees(m))
		// One of the letters 0, 1 and 2 is like the state 3.
		want(t, "states of LeastTrees told by trees "+what, least.States, 4)
	}
	full, ok := impl.LeastTrees(fullTrees(16, 14))
	want(t, "LeastTrees of 16 states that are told apart succeeds", ok, true)
	want(t, "states of LeastTrees of 16 states that are told apart", full.States, 16)
	least, ok := impl.LeastTrees(leafCounter(16, 5))
	numbers := []int{}
	for i := range 16 {
		numbers = append(numbers, (i+15)%16)
	}
	wantTrees(t, "LeastTrees of 16 counted leaves", least, ok, shuffledTrees(leafCounter(16, 5), numbers))
}

func TestRandomLeastTrees(t *testing.T) {
	r := rand.New(rand.NewSource(11))
	trees := map[int64][][]int64{1: treesUpTo(1, 6), 2: treesUpTo(2, 4), 3: treesUpTo(3, 3)}
	sizes := map[int64]int{}
	for range 1500 {
		m := randomTrees(r, 1+r.Int63n(3), 7)
		what := fmt.Sprint("LeastTrees ", m)
		least, ok := impl.LeastTrees(m)
		wantTrees(t, what, least, ok, knownLeastTrees(m))
		want(t, what+" is valid", impl.ValidTrees(least), true)
		found, _ := knownFound(least)
		for i, state := range found {
			want(t, "found state of "+what, state, int64(i))
		}
		again, ok := impl.LeastTrees(least)
		wantTrees(t, what+" twice", again, ok, least)
		for _, list := range trees[m.Letters] {
			want(t, fmt.Sprint(what, " reads ", list), knownTreeRead(least, list), knownTreeRead(m, list))
		}
		if m.States < least.States {
			t.Errorf("%s has more states", what)
		}
		sizes[least.States]++
	}
	for size := int64(1); size <= 4; size++ {
		if sizes[size] < 30 {
			t.Errorf("just %d machines have %d states", sizes[size], size)
		}
	}
}

// manyStates returns a machine that reads the same trees as m, with states that are there twice, and in another order.
func manyStates(r *rand.Rand, m impl.TreeMachine) impl.TreeMachine {
	other := impl.TreeMachine{States: 2 * m.States, Letters: m.Letters}
	either := func(state int64) int64 { return state + m.States*r.Int63n(2) }
	for _, state := range m.Leaves {
		other.Leaves = append(other.Leaves, either(state))
	}
	for i := range other.States {
		for k := range other.States {
			other.Next = append(other.Next, either(m.Next[i%m.States*m.States+k%m.States]))
		}
	}
	other.Ends = slices.Concat(m.Ends, m.Ends)
	return shuffledTrees(other, r.Perm(int(other.States)))
}

func TestLeastTreesAreTheSameForTheSameTrees(t *testing.T) {
	r := rand.New(rand.NewSource(12))
	for range 500 {
		m := randomTrees(r, 1+r.Int63n(3), 8)
		least, _ := impl.LeastTrees(m)
		other, ok := impl.LeastTrees(manyStates(r, m))
		wantTrees(t, fmt.Sprint("LeastTrees of more states than ", m), other, ok, least)
	}
}

func TestNoMachineIsSmallerThanLeastTrees(t *testing.T) {
	r := rand.New(rand.NewSource(13))
	trees, all := treesUpTo(1, 7), []impl.TreeMachine{allTrees(1, "0"), allTrees(1, "1")}
	for i := range int64(128) {
		all = append(all, treeMachine([]int64{i % 2}, []int64{i / 2 % 2, i / 4 % 2, i / 8 % 2, i / 16 % 2}, []string{"00", "01", "10", "11"}[i/32]))
	}
	tried := 0
	for range 800 {
		m := randomTrees(r, 1, 5)
		least, _ := impl.LeastTrees(m)
		if least.States < 2 || least.States > 3 {
			continue
		}
		tried++
		for _, other := range all {
			isOther := func(list []int64) bool { return knownTreeRead(other, list) != knownTreeRead(m, list) }
			if other.States < least.States && !slices.ContainsFunc(trees, isOther) {
				t.Errorf("%v reads trees as %v", other, m)
			}
		}
	}
	if tried < 100 {
		t.Errorf("just %d machines", tried)
	}
}

func TestCountTreesRead(t *testing.T) {
	catalan := []int64{1, 1, 2, 5, 14, 42, 132, 429}
	for letters := 1; letters <= 4; letters++ {
		power := int64(1)
		for i, count := range catalan {
			power *= int64(letters)
			got, ok := impl.CountTreesRead(allTrees(letters, "1"), int64(i+1))
			wantCount(t, fmt.Sprint("CountTreesRead of letters ", letters, ", leaves ", i+1), got, ok, count*power)
			got, ok = impl.CountTreesRead(allTrees(letters, "0"), int64(i+1))
			wantCount(t, fmt.Sprint("CountTreesRead of nothing, letters ", letters, ", leaves ", i+1), got, ok, 0)
		}
	}
	for leaves := int64(1); leaves <= 8; leaves++ {
		for state := range int64(16) {
			expected := int64(0)
			if leaves == state {
				expected = catalan[leaves-1]
			}
			count, ok := impl.CountTreesRead(leafCounter(16, state), leaves)
			wantCount(t, fmt.Sprint("CountTreesRead of ", state, " leaves, leaves ", leaves), count, ok, expected)
		}
		// One tree with 8 leaves is full.
		count, ok := impl.CountTreesRead(fullTrees(5, 3), leaves)
		wantCount(t, fmt.Sprint("CountTreesRead of full trees, leaves ", leaves), count, ok, leaves/8)
	}
	for _, leaves := range []int64{0, 9, -1, 12, math.MinInt64, math.MaxInt64} {
		count, ok := impl.CountTreesRead(allTrees(1, "1"), leaves)
		wantFailure(t, fmt.Sprint("CountTreesRead of leaves ", leaves), count, ok)
	}
	r := rand.New(rand.NewSource(14))
	for range 200 {
		letters := 1 + r.Int63n(3)
		m, counts := randomTrees(r, letters, 7), [6]int64{}
		for _, list := range treesUpTo(letters, []int{5, 4, 4}[letters-1]) {
			if knownTreeRead(m, list) {
				counts[len(list)/2+1]++
			}
		}
		for leaves := int64(1); leaves <= 4; leaves++ {
			count, ok := impl.CountTreesRead(m, leaves)
			wantCount(t, fmt.Sprint("CountTreesRead ", m, leaves), count, ok, counts[leaves])
		}
	}
}

// leading returns a machine all pairs of which lead to one state but those that are told, each by two states and that to
// which they lead.
func leading(leaves []int64, ends string, others int64, pairs ...[3]int64) impl.TreeMachine {
	states := int64(len(ends))
	m := treeMachine(leaves, slices.Repeat([]int64{others}, int(states*states)), ends)
	for _, pair := range pairs {
		m.Next[pair[0]*states+pair[1]] = pair[2]
	}
	return m
}

// withNext returns such a machine of one letter, where the leaf has the state 0, and most pairs lead to the last state.
func withNext(ends string, pairs ...[3]int64) impl.TreeMachine {
	return leading([]int64{0}, ends, int64(len(ends))-1, pairs...)
}

// halvedTree returns the text of the tree by which a machine that counts leaves finds 11 or 12 of them.
func halvedTree(leaves int) string {
	two, three := "(00)", "(0(00))"
	five, six := "("+two+three+")", "("+three+three+")"
	if leaves == 11 {
		return "(" + five + six + ")"
	}
	return "(" + six + six + ")"
}

func TestFirstTree(t *testing.T) {
	// The states 5 and 6 are found one behind the other, by trees of 33 and of 19 numbers.
	uneven := [][3]int64{{0, 0, 1}, {1, 1, 2}, {2, 2, 3}, {0, 3, 4}, {3, 4, 5}, {4, 0, 6}}
	for _, c := range []struct {
		m        impl.TreeMachine
		expected string
	}{
		{evenLeaves(), "(00)"}, {allTrees(4, "1"), "0"}, {allTrees(1, "0"), ""}, {leafCounter(16), ""}, {leafCounter(16, 0), ""},
		// The first letter, and the first one with this state.
		{treeMachine([]int64{1, 0, 0, 1}, []int64{1, 1, 1, 1}, "10"), "1"}, {treeMachine([]int64{1, 0}, make([]int64, 4), "11"), "0"}, {treeMachine([]int64{2, 1, 0}, make([]int64, 9), "110"), "1"},
		// Ends without trees.
		{treeMachine([]int64{1, 1}, []int64{1, 1, 1, 1}, "10"), ""}, {treeMachine([]int64{2}, slices.Repeat([]int64{1}, 9), "100"), ""}, {treeMachine([]int64{2}, slices.Repeat([]int64{1}, 9), "110"), "(00)"},
		// The greater number in the list, then the former one, then the latter one.
		{treeMachine([]int64{0, 1}, []int64{1, 2, 2, 2, 1, 1, 2, 2, 2}, "001"), "(01)"}, {treeMachine([]int64{0, 1}, []int64{1, 1, 2, 2, 2, 1, 2, 2, 2}, "001"), "(10)"}, {treeMachine([]int64{0, 1}, []int64{1, 1, 2, 1, 2, 1, 2, 2, 2}, "001"), "(11)"},
		{treeMachine([]int64{1, 0}, []int64{1, 2, 2, 2, 1, 1, 2, 2, 2}, "001"), "(01)"}, {treeMachine([]int64{1, 0}, []int64{1, 2, 2, 1, 1, 1, 2, 2, 2}, "001"), "(10)"},
		// 3 is found by the former pair 0 2, not by 2 0, and 2 0 comes before 2 1.
		{withNext("00010", [3]int64{0, 0, 1}, [3]int64{1, 1, 2}, [3]int64{0, 2, 3}, [3]int64{2, 0, 3}), "(0((00)(00)))"}, {withNext("00010", [3]int64{0, 0, 1}, [3]int64{1, 1, 2}, [3]int64{2, 1, 3}, [3]int64{2, 0, 3}), "(((00)(00))0)"},
		{withNext("00010", [3]int64{0, 0, 1}, [3]int64{1, 1, 2}, [3]int64{1, 2, 3}, [3]int64{2, 0, 3}), "((00)((00)(00)))"},
		// The numbers in the list count, not those of the states.
		{leading([]int64{3, 1, 2}, "1000", 3, [3]int64{1, 2, 0}, [3]int64{3, 1, 0}), "(01)"}, {leading([]int64{3, 1, 2}, "1000", 3, [3]int64{1, 2, 0}, [3]int64{3, 2, 0}), "(02)"},
		{leading([]int64{3, 1, 2}, "1000", 3, [3]int64{2, 1, 0}, [3]int64{2, 3, 0}), "(20)"}, {leading([]int64{3, 1, 2}, "1000", 3, [3]int64{1, 1, 0}, [3]int64{3, 1, 0}, [3]int64{1, 3, 0}), "(01)"},
		// Trees of 23 numbers, and of 25.
		{leafCounter(16, 11), halvedTree(11)}, {leafCounter(16, 12), halvedTree(12)}, {leafCounter(16, 13), ""}, {leafCounter(13, 12), halvedTree(12)}, {leafCounter(14, 13), ""}, {leafCounter(16, 13, 14, 12), halvedTree(12)},
		{fullTrees(16, 0), "0"}, {fullTrees(16, 1), "(00)"}, {fullTrees(16, 2), "((00)(00))"}, {fullTrees(16, 3), "(((00)(00))((00)(00)))"}, {fullTrees(16, 4), ""}, {fullTrees(16, 14), ""}, {fullTrees(16, 15), "(0(00))"},
		// Where the tree of the first found end is too long, there is no other one.
		{withNext("00000110", uneven...), ""}, {withNext("00000100", uneven...), ""}, {withNext("00000010", uneven...), "((0(((00)(00))((00)(00))))0)"},
	} {
		list, ok := impl.FirstTree(c.m)
		what := fmt.Sprint("FirstTree ", c.m)
		if c.expected == "" {
			wantListFailure(t, what, list, ok)
			continue
		}
		wantList(t, what, list, ok, tree(c.expected)...)
	}
}

func TestRandomFirstTrees(t *testing.T) {
	r := rand.New(rand.NewSource(15))
	branches := 0
	for range 4000 {
		m := randomTrees(r, 1+r.Int63n(3), 16)
		for i := range m.Ends {
			m.Ends[i] = r.Intn(6) == 0
		}
		states, trees := knownFound(m)
		first := slices.IndexFunc(states, func(state int64) bool { return m.Ends[state] })
		list, ok := impl.FirstTree(m)
		what := fmt.Sprint("FirstTree ", m)
		if first < 0 || len(trees[first]) > 23 {
			wantListFailure(t, what, list, ok)
			continue
		}
		wantList(t, what, list, ok, trees[first]...)
		want(t, what+" is read", knownTreeRead(m, list), true)
		if len(list) > 3 {
			branches++
		}
	}
	if branches < 200 {
		t.Errorf("just %d trees of more than 2 leaves", branches)
	}
}

// wantHasTree checks whether a word has a tree that is read.
func wantHasTree(t *testing.T, m impl.TreeMachine, word []int64, expected bool) {
	t.Helper()
	has, ok := impl.WordHasTree(m, word)
	want(t, fmt.Sprint("WordHasTree ", m, word, " succeeds"), ok, true)
	want(t, fmt.Sprint("WordHasTree ", m, word), has, expected)
}

func TestWordHasTree(t *testing.T) {
	// Just a leaf 1, and branches of a leaf 0 and of such a tree, have the state 1.
	last := treeMachine([]int64{0, 1}, []int64{2, 1, 2, 2, 2, 2, 2, 2, 2}, "010")
	for _, c := range []struct {
		m        impl.TreeMachine
		word     string
		expected bool
	}{
		{evenLeaves(), "0", false}, {evenLeaves(), "00", true}, {evenLeaves(), zeros(11), false}, {evenLeaves(), zeros(12), true}, {allTrees(4, "1"), "3", true}, {allTrees(4, "1"), "321032103210", true}, {allTrees(4, "0"), "321032103210", false},
		{leafCounter(16, 12), zeros(12), true}, {leafCounter(16, 12), zeros(11), false}, {leafCounter(13, 12), zeros(12), true}, {fullTrees(16, 3), zeros(8), true}, {fullTrees(16, 3), zeros(7), false}, {fullTrees(16, 3), zeros(9), false}, {fullTrees(16, 3), zeros(12), false},
		{fullTrees(16, 2), zeros(4), true}, {fullTrees(16, 15), zeros(3), true}, {fullTrees(16, 15), zeros(4), true}, {fullTrees(16, 15), zeros(2), false},
		{last, "1", true}, {last, "0", false}, {last, "01", true}, {last, "10", false}, {last, zeros(11) + "1", true}, {last, zeros(10) + "10", false}, {last, "1" + zeros(10) + "1", false},
		{treeMachine([]int64{1}, slices.Repeat([]int64{1}, 9), "101"), zeros(12), false},
	} {
		wantHasTree(t, c.m, spelled(c.word), c.expected)
	}
	for _, word := range [][]int64{nil, {}, make([]int64, 13), make([]int64, 1000), {2}, {0, 1, 2}, {-1}, {-1, 0, 0}, {math.MaxInt64}, {math.MinInt64}} {
		has, ok := impl.WordHasTree(allTrees(2, "1"), word)
		wantFailure(t, fmt.Sprint("WordHasTree ", word), has, ok)
	}
	r := rand.New(rand.NewSource(16))
	counts := map[bool]int{}
	for i := range 1500 {
		m, letters := randomTrees(r, 1+r.Int63n(3), 16), int64(0)
		for k := range m.Ends {
			m.Ends[k] = r.Intn(8) == 0
		}
		letters = m.Letters
		most := 6
		if i < 3 {
			most = 10
		}
		word := append(randomWord(r, letters, most), r.Int63n(letters))
		isRead := func(list []int64) bool { return knownTreeRead(m, list) }
		has := slices.ContainsFunc(treesOver(word), isRead)
		wantHasTree(t, m, word, has)
		counts[has]++
	}
	if min(counts[true], counts[false]) < 200 {
		t.Errorf("words have trees or not: %v", counts)
	}
}
