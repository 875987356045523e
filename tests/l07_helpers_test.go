package tests

import (
	"math/rand"
	"slices"
	"testing"

	"loop.example/g01357/impl"
)

// loop returns a loop whose letters are told by digits.
func loop(head, round string) impl.Loop {
	return impl.Loop{Head: spelled(head), Round: spelled(round)}
}

// randomLoop returns a loop whose parts are short.
func randomLoop(r *rand.Rand, letters int64) impl.Loop {
	return impl.Loop{Head: randomWord(r, letters, 6), Round: append(randomWord(r, letters, 5), r.Int63n(letters))}
}

// letterOf returns the letter of a loop with an index.
func letterOf(l impl.Loop, at int) int64 {
	for at >= len(l.Head) {
		l.Head = append(slices.Clone(l.Head), l.Round...)
	}
	return l.Head[at]
}

// invalidLoops returns loops that are none for 3 letters.
func invalidLoops() map[string]impl.Loop {
	return map[string]impl.Loop{
		"nothing": {}, "no Round": loop("0", ""), "a Head of 13 letters": loop(zeros(13), "0"), "a Round of 13 letters": loop("", zeros(13)),
		"a letter 3 in Head": loop("03", "0"), "a letter 3 in Round": loop("0", "03"),
		"a letter -1 in Head": {Head: []int64{-1}, Round: []int64{0}}, "a letter -1 in Round": {Head: []int64{0}, Round: []int64{0, -1}},
	}
}

func wantLoop(t *testing.T, what string, got impl.Loop, ok bool, expected impl.Loop) {
	t.Helper()
	want(t, what+" succeeds", ok, true)
	wantSame(t, what, got, expected)
}

func wantNoLoop(t *testing.T, what string, got impl.Loop, ok bool) {
	t.Helper()
	if ok || len(got.Head)+len(got.Round) != 0 {
		t.Errorf("%s: got %v, %v, want a failure", what, got, ok)
	}
}

// game returns a game whose owners, ranks and moves are told by digits, the moves of a node as one word.
func game(owners, ranks, moves string) impl.Game {
	return impl.Game{Owners: spelled(owners), Ranks: spelled(ranks), Moves: spelledAll(moves)}
}

// ownRound is the game of the example of the document.
func ownRound() impl.Game { return game("0", "2", "0") }

// randomGame returns a game of 1 to most nodes with at most 3 Moves each.
func randomGame(r *rand.Rand, most int64) impl.Game {
	nodes := 1 + r.Int63n(most)
	g := impl.Game{}
	for range nodes {
		moves := []int64{}
		for range 1 + r.Intn(3) {
			moves = append(moves, r.Int63n(nodes))
		}
		slices.Sort(moves)
		g.Owners, g.Ranks, g.Moves = append(g.Owners, r.Int63n(2)), append(g.Ranks, r.Int63n(1+r.Int63n(9))), append(g.Moves, slices.Compact(moves))
	}
	return g
}

// ringGame returns a game of some nodes each of which leads to itself and to the next one; Owners and Ranks count up.
func ringGame(nodes int64) impl.Game {
	g := impl.Game{}
	for node := range nodes {
		moves := []int64{node}
		if next := (node + 1) % nodes; next != node {
			moves = append(moves, next)
		}
		slices.Sort(moves)
		g.Owners, g.Ranks, g.Moves = append(g.Owners, node%2), append(g.Ranks, node%9), append(g.Moves, moves)
	}
	return g
}

// invalidGames returns games that are none.
func invalidGames() map[string]impl.Game {
	return map[string]impl.Game{
		"nothing": {}, "17 nodes": ringGame(17), "an owner more": game("00", "2", "0"), "an owner less": game("", "2", "0"), "a rank more": game("0", "20", "0"),
		"a rank less": game("0", "", "0"), "a list of moves more": game("0", "2", "0 0"), "no moves": {Owners: []int64{0}, Ranks: []int64{2}},
		"a node without moves": {Owners: []int64{0, 0}, Ranks: []int64{2, 2}, Moves: [][]int64{{0}, {}}}, "the player 2": game("02", "00", "0 1"),
		"the player -1": {Owners: []int64{-1}, Ranks: []int64{2}, Moves: [][]int64{{0}}}, "the rank 9": game("00", "09", "0 1"),
		"the rank -1": {Owners: []int64{0}, Ranks: []int64{-1}, Moves: [][]int64{{0}}}, "a node that is not there": game("00", "00", "0 2"),
		"the node -1": {Owners: []int64{0}, Ranks: []int64{0}, Moves: [][]int64{{-1}}}, "a move that is there twice": game("00", "00", "0 11"),
		"moves that descend": game("00", "00", "10 1"),
	}
}

// choicesOf returns games in which the nodes of a player have one of their Moves alone, one for each choice.
func choicesOf(g impl.Game, player int64) []impl.Game {
	choices := []impl.Game{g}
	for node, moves := range g.Moves {
		if g.Owners[node] != player {
			continue
		}
		more := []impl.Game{}
		for _, choice := range choices {
			for _, move := range moves {
				more = append(more, alone(choice, node, move))
			}
		}
		choices = more
	}
	return choices
}

// alone returns a game in which a node has one move.
func alone(g impl.Game, node int, move int64) impl.Game {
	g.Moves = slices.Clone(g.Moves)
	g.Moves[node] = []int64{move}
	return g
}

// walk returns the nodes that come from a node on in a game in which each one has one move, until all have come that do.
func walk(g impl.Game, node int64) []int64 {
	nodes := []int64{}
	for range 2 * len(g.Moves) {
		nodes = append(nodes, node)
		node = g.Moves[node][0]
	}
	return nodes
}

// winnerOf returns who wins from a node in a game in which each one has one move.
func winnerOf(g impl.Game, node int64) int64 {
	greatest := int64(0)
	for _, again := range walk(g, node)[len(g.Moves):] {
		greatest = max(greatest, g.Ranks[again])
	}
	return greatest % 2
}

// knownSolution returns the nodes, as a list of bools, for which a player has a choice of moves that has to come out
// well whatever the other one chooses.
func knownSolution(g impl.Game, player int64, isWell func(g impl.Game, node int64) bool) []bool {
	solution := make([]bool, len(g.Moves))
	for _, own := range choicesOf(g, player) {
		both := choicesOf(own, 1-player)
		for node := range solution {
			isBad := func(choice impl.Game) bool { return !isWell(choice, int64(node)) }
			solution[node] = solution[node] || !slices.ContainsFunc(both, isBad)
		}
	}
	return solution
}

// knownWinners returns who wins from each node, told by trying out all moves.
func knownWinners(g impl.Game) []int64 {
	winners := slices.Repeat([]int64{1}, len(g.Moves))
	for node, wins := range knownSolution(g, 0, func(g impl.Game, node int64) bool { return winnerOf(g, node) == 0 }) {
		if wins {
			winners[node] = 0
		}
	}
	return winners
}

// knownMoves returns moves that win, told by trying out all moves of all games in which some have been taken.
func knownMoves(g impl.Game) []int64 {
	moves := costs(-1, len(g.Moves))
	for node, winner := range knownWinners(g) {
		wins := func(move int64) bool { return knownWinners(alone(g, node, move))[node] == winner }
		if at := slices.IndexFunc(g.Moves[node], wins); g.Owners[node] == winner {
			moves[node] = g.Moves[node][at]
			g = alone(g, node, moves[node])
		}
	}
	return moves
}

// comesAgain reports whether a way leads from a node back to it along nodes with no greater Ranks, where just some moves
// can be taken.
func comesAgain(g impl.Game, first int64, canTake func(node, move int64) bool) bool {
	reached := []int64{first}
	for at := 0; at < len(reached); at++ {
		for _, move := range g.Moves[reached[at]] {
			if !canTake(reached[at], move) || g.Ranks[move] > g.Ranks[first] {
				continue
			}
			if move == first {
				return true
			}
			if !slices.Contains(reached, move) {
				reached = append(reached, move)
			}
		}
	}
	return false
}

// knownWinning reports whether moves win: nobody leaves the nodes of a winner, and no rank of the other player can come
// again and again as the greatest one.
func knownWinning(g impl.Game, winners, moves []int64) bool {
	canTake := func(node, move int64) bool { return winners[node] != g.Owners[node] || moves[node] == move }
	for node, winner := range winners {
		if (moves[node] == -1) == (g.Owners[node] == winner) || moves[node] != -1 && !slices.Contains(g.Moves[node], moves[node]) {
			return false
		}
		for _, move := range g.Moves[node] {
			if canTake(int64(node), move) && winners[move] != winner {
				return false
			}
		}
	}
	for node, winner := range winners {
		if g.Ranks[node]%2 != winner && comesAgain(g, int64(node), canTake) {
			return false
		}
	}
	return true
}

func wantGame(t *testing.T, what string, got impl.Game, ok bool, expected impl.Game) {
	t.Helper()
	want(t, what+" succeeds", ok, true)
	wantSame(t, what, got, expected)
}

func wantNoGame(t *testing.T, what string, got impl.Game, ok bool) {
	t.Helper()
	if ok || len(got.Owners)+len(got.Ranks)+len(got.Moves) != 0 {
		t.Errorf("%s: got %v, %v, want a failure", what, got, ok)
	}
}

// no stands for NoBound.
const no = impl.NoBound

// zone returns a zone of 1 to 4 clocks with these Bounds.
func zone(bounds ...int64) impl.Zone {
	z := impl.Zone{Bounds: bounds}
	for (z.Clocks+1)*(z.Clocks+1) < int64(len(bounds)) {
		z.Clocks++
	}
	return z
}

// wholeZone returns the zone of all times.
func wholeZone(clocks int64) impl.Zone {
	z, _ := impl.WholeZone(clocks)
	return z
}

// randomZone returns a zone with Bounds of at most most, or NoBound; it may hold for no times.
func randomZone(r *rand.Rand, clocks, most int64) impl.Zone {
	z := wholeZone(clocks)
	for i := range clocks + 1 {
		for k := range clocks + 1 {
			bound := &z.Bounds[i*(clocks+1)+k]
			switch {
			case i == k || r.Intn(3) == 0:
			case i == 0:
				*bound = -r.Int63n(most + 1)
			default:
				*bound = r.Int63n(most+most/2+1) - most/2
			}
		}
	}
	return z
}

// knownHolds reports whether a zone holds for times.
func knownHolds(z impl.Zone, times []int64) bool {
	timeOf := func(number int64) int64 {
		if number == 0 {
			return 0
		}
		return times[number-1]
	}
	for i := range z.Clocks + 1 {
		for k := range z.Clocks + 1 {
			if bound := z.Bounds[i*(z.Clocks+1)+k]; bound != no && timeOf(i)-timeOf(k) > bound {
				return false
			}
		}
	}
	return true
}

// timesUpTo returns all times of some clocks up to most.
func timesUpTo(clocks, most int64) [][]int64 { return listsOf(most+1, clocks) }

// invalidZones returns zones that are none.
func invalidZones() map[string]impl.Zone {
	return map[string]impl.Zone{
		"nothing": {}, "no clocks": {Bounds: []int64{0}}, "5 clocks": {Clocks: 5, Bounds: make([]int64, 36)}, "-1 clocks": {Clocks: -1}, "-2 clocks": {Clocks: -2, Bounds: []int64{0}},
		"a bound less": {Clocks: 1, Bounds: []int64{0, 0, 0}}, "a bound more": {Clocks: 1, Bounds: make([]int64, 5)}, "no bounds": {Clocks: 1}, "too few clocks": {Clocks: 1, Bounds: make([]int64, 9)},
		"a bound 1000001": zone(0, 0, 1000001, 0), "a bound -1000001": zone(0, -1000001, 0, 0), "a bound 999999999": zone(0, 0, no-1, 0), "a bound 1000000001": zone(0, 0, no+1, 0), "the bound -NoBound": zone(0, 0, -no, 0),
		"a middle 1": zone(1, 0, 0, 0), "a middle -1": zone(0, 0, 0, -1), "a middle NoBound": zone(0, 0, 0, no), "the last middle 1": zone(0, 0, 0, 0, 0, 0, 0, 0, 1),
		"a first row 1": zone(0, 1, 0, 0), "a first row NoBound": zone(0, no, 0, 0), "the end of a first row 1": zone(0, 0, 1, 0, 0, 0, 0, 0, 0), "many clocks": {Clocks: 1 << 62}, "all clocks": {Clocks: 1<<63 - 1},
	}
}

func wantZone(t *testing.T, what string, got impl.Zone, ok bool, expected impl.Zone) {
	t.Helper()
	want(t, what+" succeeds", ok, true)
	wantSame(t, what, got, expected)
}

func wantNoZone(t *testing.T, what string, got impl.Zone, ok bool) {
	t.Helper()
	if ok || got.Clocks != 0 || len(got.Bounds) != 0 {
		t.Errorf("%s: got %v, %v, want a failure", what, got, ok)
	}
}

// wantReport checks what a function reports that can fail.
func wantReport(t *testing.T, what string, got, ok, expected bool) {
	t.Helper()
	want(t, what+" succeeds", ok, true)
	want(t, what, got, expected)
}

func TestLimitsOfChapter7(t *testing.T) {
	wantSame(t, "limits", []int{impl.MaxNodes, impl.MaxRank, impl.MaxClocks, impl.MaxBound, impl.NoBound, impl.MaxKept}, []int{16, 8, 4, 1000000, 1000000000, 8})
}
