package tests

import (
	"fmt"
	"math/rand"
	"slices"
	"testing"

	"loop.example/g01357/impl"
)

// full returns a game of 16 nodes each of which leads to all of them; Owners and Ranks are told.
func full(ownerOf, rankOf func(node int64) int64) impl.Game {
	g := impl.Game{}
	for node := range int64(16) {
		g.Owners, g.Ranks, g.Moves = append(g.Owners, ownerOf(node)), append(g.Ranks, rankOf(node)), append(g.Moves, countedFrom(0, 15))
	}
	return g
}

// always returns a function that tells one number of all nodes.
func always(n int64) func(int64) int64 { return func(int64) int64 { return n } }

// eachGame checks random games of at most most nodes.
func eachGame(times int, most int64, check func(r *rand.Rand, g impl.Game)) {
	r := rand.New(rand.NewSource(22))
	for range times {
		check(r, randomGame(r, most))
	}
}

func TestValidGame(t *testing.T) {
	valid := map[string]impl.Game{
		"the example": ownRound(), "16 nodes": ringGame(16), "16 nodes with all moves": full(always(1), always(8)), "the rank 0": game("0", "0", "0"), "the rank 8": game("1", "8", "0"),
		"two nodes with both moves": game("01", "08", "01 01"), "moves past a node": game("000", "000", "02 1 012"),
	}
	wantValid(t, "ValidGame", impl.ValidGame, valid, invalidGames())
	for _, n := range others() {
		for what, g := range map[string]impl.Game{"an owner": {Owners: []int64{n}, Ranks: []int64{0}, Moves: [][]int64{{0}}}, "a rank": {Owners: []int64{0}, Ranks: []int64{n}, Moves: [][]int64{{0}}}, "a move": {Owners: []int64{0}, Ranks: []int64{0}, Moves: [][]int64{{n}}}} {
			want(t, fmt.Sprint("ValidGame with ", what, n), impl.ValidGame(g), false)
		}
	}
	want(t, "ValidGame with moves that end in the least number", impl.ValidGame(impl.Game{Owners: []int64{0}, Ranks: []int64{0}, Moves: [][]int64{{0, others()[1]}}}), false)
}

func TestSameGame(t *testing.T) {
	wantSameAlone(t, "SameGame", impl.SameGame, ownRound(), invalidGames())
	example := game("01", "23", "01 1")
	want(t, "SameGame of equal games", impl.SameGame(example, game("01", "23", "01 1")), true)
	for _, other := range []impl.Game{
		game("11", "23", "01 1"), game("00", "23", "01 1"), game("01", "33", "01 1"), game("01", "22", "01 1"), game("01", "23", "0 1"), game("01", "23", "01 0"), game("01", "23", "01 01"), game("01", "23", "10 1"),
		game("0", "23", "01 1"), game("01", "2", "01 1"), game("01", "23", "01"), game("01", "23", "01 1 1"), game("010", "23", "01 1"), game("01", "234", "01 1"), {},
	} {
		want(t, fmt.Sprint("SameGame of the example and ", other), impl.SameGame(example, other), false)
		want(t, fmt.Sprint("SameGame of the example behind ", other), impl.SameGame(other, example), false)
	}
	want(t, "SameGame of nil lists and empty ones", impl.SameGame(impl.Game{Moves: [][]int64{nil}}, impl.Game{Owners: []int64{}, Ranks: []int64{}, Moves: [][]int64{{}}}), true)
}

func TestReachOf(t *testing.T) {
	for _, c := range []struct {
		g      impl.Game
		set    string
		player int64
		reach  string
	}{
		{ownRound(), "", 0, ""}, {ownRound(), "", 1, ""}, {ownRound(), "0", 0, "0"}, {ownRound(), "0", 1, "0"}, {ringGame(3), "012", 0, "012"}, {ringGame(3), "012", 1, "012"},
		{game("01", "21", "01 1"), "1", 0, "01"}, {game("01", "21", "01 1"), "1", 1, "1"}, {game("01", "21", "01 1"), "0", 0, "0"},
		// The owner of the last node of the path from 0 to 3 decides, as all others have just one move.
		{game("0101", "0000", "1 2 03 3"), "3", 0, "0123"}, {game("0101", "0000", "1 2 03 3"), "3", 1, "3"}, {game("0111", "0000", "1 2 03 3"), "3", 1, "0123"},
		// The other player can keep going round, but not if all Moves lead to the set.
		{game("1100", "0000", "01 23 2 3"), "23", 0, "123"}, {game("1100", "0000", "01 23 2 3"), "2", 0, "2"}, {game("1100", "0000", "01 23 2 3"), "2", 1, "012"},
		{game("111", "000", "12 2 2"), "2", 0, "012"}, {game("000", "000", "12 2 2"), "1", 1, "1"}, {game("010", "000", "1 02 2"), "0", 0, "0"}, {game("010", "000", "1 02 2"), "0", 1, "01"},
	} {
		reach, ok := impl.ReachOf(c.g, spelled(c.set), c.player)
		wantList(t, fmt.Sprint("ReachOf ", c.g, c.set, " by ", c.player), reach, ok, spelled(c.reach)...)
	}
	reach, ok := impl.ReachOf(full(always(0), always(0)), []int64{15}, 0)
	wantList(t, "ReachOf the last one of 16 nodes", reach, ok, countedFrom(0, 15)...)
	reach, ok = impl.ReachOf(full(always(0), always(0)), []int64{3, 15}, 1)
	wantList(t, "ReachOf two of 16 nodes of the other player", reach, ok, 3, 15)
	reach, ok = impl.ReachOf(ringGame(16), countedFrom(0, 15), 1)
	wantList(t, "ReachOf all nodes", reach, ok, countedFrom(0, 15)...)
}

func TestReachOfIsTriedOut(t *testing.T) {
	more := 0
	eachGame(400, 6, func(r *rand.Rand, g impl.Game) {
		set, player := []int64{}, r.Int63n(2)
		for node := range int64(len(g.Moves)) {
			if r.Intn(4) == 0 {
				set = append(set, node)
			}
		}
		known := []int64{}
		for node, reaches := range knownSolution(g, player, func(g impl.Game, node int64) bool {
			return slices.ContainsFunc(walk(g, node), func(passed int64) bool { return slices.Contains(set, passed) })
		}) {
			if reaches {
				known = append(known, int64(node))
			}
		}
		reach, ok := impl.ReachOf(g, set, player)
		wantList(t, fmt.Sprint("ReachOf ", g, set, player), reach, ok, known...)
		if len(set) > 0 && len(known) > len(set) && len(known) < len(g.Moves) {
			more++
		}
	})
	if more < 50 {
		t.Errorf("just %d sets that are reached from some nodes more", more)
	}
}

func TestReachOfNoSet(t *testing.T) {
	g := ringGame(3)
	for what, set := range map[string][]int64{
		"descends": {1, 0}, "has a node twice": {1, 1}, "has the node 3": {0, 3}, "has the node -1": {-1, 0}, "has a great node": {0, others()[2]}, "has a least node": {others()[1]}, "has all nodes and one more": {0, 1, 2, 3},
	} {
		for player := range int64(2) {
			reach, ok := impl.ReachOf(g, set, player)
			wantListFailure(t, "ReachOf a set that "+what, reach, ok)
		}
	}
	for _, player := range append(others(), 2) {
		reach, ok := impl.ReachOf(g, []int64{0}, player)
		wantListFailure(t, fmt.Sprint("ReachOf by the player ", player), reach, ok)
	}
}

func TestExamplesOfGames(t *testing.T) {
	winners, ok := impl.SolveGame(ownRound())
	wantList(t, "SolveGame of the example", winners, ok, 0)
}

func TestSolvedGames(t *testing.T) {
	for _, c := range []struct {
		g              impl.Game
		winners, moves []int64
	}{
		{ownRound(), []int64{0}, []int64{0}}, {game("1", "2", "0"), []int64{0}, []int64{-1}}, {game("0", "0", "0"), []int64{0}, []int64{0}}, {game("0", "1", "0"), []int64{1}, []int64{-1}}, {game("1", "7", "0"), []int64{1}, []int64{0}}, {game("1", "8", "0"), []int64{0}, []int64{-1}},
		// Both can keep going round in their own nodes, and who leaves loses.
		{game("01", "21", "01 01"), []int64{0, 1}, []int64{0, 1}}, {game("01", "12", "01 01"), []int64{0, 0}, []int64{1, -1}}, {game("10", "12", "01 01"), []int64{1, 0}, []int64{0, 1}}, {game("10", "21", "01 01"), []int64{0, 0}, []int64{-1, 0}},
		// Just the greatest rank that comes again and again counts: not one that comes once, nor how often one comes.
		{game("000", "812", "1 2 1"), []int64{0, 0, 0}, []int64{1, 2, 1}}, {game("000", "823", "1 2 1"), []int64{1, 1, 1}, []int64{-1, -1, -1}}, {game("0000", "1114", "1 2 3 0"), []int64{0, 0, 0, 0}, []int64{1, 2, 3, 0}},
		{game("1111", "6665", "1 2 3 3"), []int64{1, 1, 1, 1}, []int64{1, 2, 3, 3}}, {game("01", "34", "1 0"), []int64{0, 0}, []int64{1, -1}}, {game("01", "54", "1 0"), []int64{1, 1}, []int64{-1, 0}},
		// From 0 the player 0 must not stay, nor go by 1: it is the move to 2 that wins.
		{game("011", "314", "012 1 0"), []int64{0, 1, 0}, []int64{2, 1, -1}},
		// All Moves win for the owner: the first one is taken.
		{game("000", "000", "012 012 012"), []int64{0, 0, 0}, []int64{0, 0, 0}}, {game("111", "100", "12 12 01"), []int64{1, 1, 1}, []int64{1, 2, 0}},
		// The move of the node 0 leads to 1, so that 1 must not lead back, and, turned around, the other way.
		{game("000", "112", "12 02 2"), []int64{0, 0, 0}, []int64{1, 2, 2}}, {game("111", "001", "12 02 2"), []int64{1, 1, 1}, []int64{1, 2, 2}}, {game("000", "211", "0 02 01"), []int64{0, 0, 0}, []int64{0, 0, 0}},
		{game("0000", "1112", "13 23 03 3"), []int64{0, 0, 0, 0}, []int64{1, 2, 3, 3}}, {game("0000", "1112", "12 023 013 3"), []int64{0, 0, 0, 0}, []int64{1, 2, 3, 3}}, {game("0000", "1112", "1 23 013 3"), []int64{0, 0, 0, 0}, []int64{1, 2, 3, 3}},
		// Who owns a node from which the other one wins, has no move there, though there is one.
		{game("010", "121", "0 12 2"), []int64{1, 1, 1}, []int64{-1, 2, -1}}, {game("110", "212", "01 1 2"), []int64{1, 1, 0}, []int64{1, 1, 2}}, {game("011", "122", "012 1 2"), []int64{0, 0, 0}, []int64{1, -1, -1}},
	} {
		winners, ok := impl.SolveGame(c.g)
		wantList(t, fmt.Sprint("SolveGame ", c.g), winners, ok, c.winners...)
		moves, ok := impl.MovesOfGame(c.g)
		wantList(t, fmt.Sprint("MovesOfGame ", c.g), moves, ok, c.moves...)
	}
}

func TestSolveGameIsTriedOut(t *testing.T) {
	both := 0
	eachGame(1000, 6, func(r *rand.Rand, g impl.Game) {
		known := knownWinners(g)
		winners, ok := impl.SolveGame(g)
		wantList(t, fmt.Sprint("SolveGame ", g), winners, ok, known...)
		if slices.Contains(known, 0) && slices.Contains(known, 1) {
			both++
		}
	})
	if both < 100 {
		t.Errorf("just %d games that both players win from some nodes", both)
	}
}

func TestMovesOfGameAreTriedOut(t *testing.T) {
	others := 0
	eachGame(200, 5, func(r *rand.Rand, g impl.Game) {
		known := knownMoves(g)
		moves, ok := impl.MovesOfGame(g)
		wantList(t, fmt.Sprint("MovesOfGame ", g), moves, ok, known...)
		winners := knownWinners(g)
		for node, move := range known {
			wins := func(move int64) bool { return winners[move] == winners[node] }
			if move >= 0 && move != g.Moves[node][slices.IndexFunc(g.Moves[node], wins)] {
				others++
			}
		}
	})
	if others < 20 {
		t.Errorf("just %d moves that are not the first ones to nodes of the winner", others)
	}
}

// greatGame returns a game of 16 nodes with some Moves each.
func greatGame(r *rand.Rand) impl.Game {
	g := full(func(int64) int64 { return r.Int63n(2) }, func(int64) int64 { return r.Int63n(9) })
	for node := range g.Moves {
		r.Shuffle(16, func(i, k int) { g.Moves[node][i], g.Moves[node][k] = g.Moves[node][k], g.Moves[node][i] })
		g.Moves[node] = g.Moves[node][:1+r.Intn(1+r.Intn(4))]
		slices.Sort(g.Moves[node])
	}
	return g
}

func TestGreatGamesAreWonByMoves(t *testing.T) {
	r := rand.New(rand.NewSource(23))
	both := 0
	for range 300 {
		g := greatGame(r)
		winners, ok := impl.SolveGame(g)
		want(t, fmt.Sprint("SolveGame succeeds ", g), ok && len(winners) == 16, true)
		moves, ok := impl.MovesOfGame(g)
		want(t, fmt.Sprint("MovesOfGame succeeds ", g), ok && len(moves) == 16, true)
		want(t, fmt.Sprint("moves win ", g, winners, moves), knownWinning(g, winners, moves), true)
		want(t, fmt.Sprint("IsWinning ", g, winners, moves), impl.IsWinning(g, winners, moves), true)
		turned, ok := impl.TurnGame(g)
		if ok {
			other, _ := impl.SolveGame(turned)
			for node := range other {
				want(t, fmt.Sprint("the other player wins turned ", g, node), other[node], 1-winners[node])
			}
			same, ok := impl.MovesOfGame(turned)
			wantList(t, fmt.Sprint("MovesOfGame turned ", g), same, ok, moves...)
		}
		if slices.Contains(winners, 0) && slices.Contains(winners, 1) {
			both++
		}
	}
	if both < 100 {
		t.Errorf("just %d games that both players win from some nodes", both)
	}
}

func TestGamesOfAllMoves(t *testing.T) {
	for _, c := range []struct {
		g                    impl.Game
		winner, owner, first int64
	}{
		{full(always(0), always(8)), 0, 0, 0}, {full(always(1), always(8)), 0, 1, -1}, {full(always(1), always(7)), 1, 1, 0}, {full(always(0), always(7)), 1, 0, -1},
	} {
		winners, ok := impl.SolveGame(c.g)
		wantList(t, "SolveGame of a game with all moves", winners, ok, slices.Repeat([]int64{c.winner}, 16)...)
		moves, ok := impl.MovesOfGame(c.g)
		wantList(t, "MovesOfGame of a game with all moves", moves, ok, slices.Repeat([]int64{c.first}, 16)...)
	}
	// Each player wins by the own best rank: the player 0, who owns the even nodes, has 8 at last.
	g := full(func(node int64) int64 { return node % 2 }, func(node int64) int64 { return node / 2 })
	winners, ok := impl.SolveGame(g)
	moves, _ := impl.MovesOfGame(g)
	want(t, "SolveGame of a game with all moves and ranks succeeds", ok, true)
	want(t, "moves win with all moves and ranks", knownWinning(g, winners, moves), true)
}

func TestIsWinning(t *testing.T) {
	g := game("01", "21", "01 01")
	for _, c := range []struct {
		g              impl.Game
		winners, moves []int64
		expected       bool
	}{
		{ownRound(), []int64{0}, []int64{0}, true}, {ownRound(), []int64{1}, []int64{-1}, false}, {ownRound(), []int64{1}, []int64{0}, false}, {ownRound(), []int64{0}, []int64{-1}, false}, {ownRound(), []int64{0}, []int64{1}, false},
		{game("1", "2", "0"), []int64{0}, []int64{-1}, true}, {game("1", "2", "0"), []int64{0}, []int64{0}, false}, {game("1", "2", "0"), []int64{1}, []int64{0}, false}, {game("1", "2", "0"), []int64{0}, []int64{-2}, false}, {game("0", "1", "0"), []int64{0}, []int64{0}, false},
		{g, []int64{0, 1}, []int64{0, 1}, true}, {g, []int64{0, 1}, []int64{1, 1}, false}, {g, []int64{0, 1}, []int64{0, 0}, false}, {g, []int64{0, 0}, []int64{0, -1}, false}, {g, []int64{1, 1}, []int64{-1, 1}, false}, {g, []int64{1, 0}, []int64{-1, -1}, false},
		{g, nil, nil, false}, {g, []int64{0}, []int64{0, 1}, false}, {g, []int64{0, 1, 0}, []int64{0, 1}, false}, {g, []int64{0, 1}, []int64{0}, false}, {g, []int64{0, 1}, []int64{0, 1, -1}, false}, {g, []int64{0, 1}, nil, false}, {g, nil, []int64{0, 1}, false},
		{g, []int64{0, 2}, []int64{0, -1}, false}, {g, []int64{-1, 1}, []int64{-1, 1}, false}, {g, []int64{0, 1}, []int64{0, 2}, false}, {g, []int64{0, 1}, []int64{-1, 1}, false}, {g, []int64{0, 1}, []int64{0, -1}, false},
		// Moves that stay among the nodes of the winner, and do not win.
		{game("000", "112", "12 02 2"), []int64{0, 0, 0}, []int64{1, 0, 2}, false}, {game("000", "112", "12 02 2"), []int64{0, 0, 0}, []int64{1, 2, 2}, true}, {game("000", "112", "12 02 2"), []int64{0, 0, 0}, []int64{2, 0, 2}, true}, {game("000", "112", "12 02 2"), []int64{0, 0, 0}, []int64{2, 2, 2}, true},
		// The move is there, but not a move of this node.
		{game("00", "22", "1 01"), []int64{0, 0}, []int64{0, 0}, false}, {game("00", "22", "1 01"), []int64{0, 0}, []int64{1, 0}, true}, {game("00", "22", "1 01"), []int64{0, 0}, []int64{1, 1}, true},
		// The moves win, but the other player can leave, or a move goes to a node of the same winner from one of the other.
		{game("10", "12", "01 1"), []int64{1, 0}, []int64{0, 1}, true}, {game("10", "12", "1 1"), []int64{0, 0}, []int64{-1, 1}, true}, {game("10", "12", "1 1"), []int64{1, 0}, []int64{1, 1}, false}, {game("110", "212", "01 1 2"), []int64{0, 1, 0}, []int64{-1, 1, 2}, false}, {game("110", "212", "01 1 2"), []int64{1, 1, 0}, []int64{1, 1, 2}, true},
		{game("110", "212", "01 1 2"), []int64{1, 1, 0}, []int64{0, 1, 2}, false},
	} {
		want(t, fmt.Sprint("IsWinning ", c.g, c.winners, c.moves), impl.IsWinning(c.g, c.winners, c.moves), c.expected)
	}
	for what, g := range invalidGames() {
		want(t, "IsWinning with "+what, impl.IsWinning(g, make([]int64, len(g.Moves)), make([]int64, len(g.Moves))), false)
	}
}

func TestIsWinningForAllWinnersAndMoves(t *testing.T) {
	winning, losing := 0, 0
	eachGame(150, 4, func(r *rand.Rand, g impl.Game) {
		nodes := int64(len(g.Moves))
		known := knownWinners(g)
		for _, winners := range listsOf(2, nodes) {
			for _, moves := range listsOf(nodes+1, nodes) {
				for node := range moves {
					moves[node]--
				}
				expected := knownWinning(g, winners, moves)
				want(t, fmt.Sprint("IsWinning ", g, winners, moves), impl.IsWinning(g, winners, moves), expected)
				if expected {
					wantSame(t, fmt.Sprint("winners of ", g), winners, known)
					winning++
				} else if slices.Equal(winners, known) {
					losing++
				}
			}
		}
	})
	if winning < 100 || losing < 100 {
		t.Errorf("%d times the moves win, %d times not", winning, losing)
	}
}

func TestGamesShared(t *testing.T) {
	list, expected := []impl.Game{}, [][]int64{}
	r := rand.New(rand.NewSource(24))
	for range 8 {
		g := randomGame(r, 16)
		winners, _ := impl.SolveGame(g)
		list, expected = append(list, g), append(expected, winners)
	}
	for _, count := range []int{0, 1, 2, 7, 8} {
		for workers := int64(1); workers <= impl.MaxWorkers; workers++ {
			what := fmt.Sprint("GamesShared of ", count, " games by ", workers)
			all, ok := impl.GamesShared(list[:count], workers)
			want(t, what+" succeeds", ok, true)
			wantSame(t, what, all, expected[:count])
		}
		for _, workers := range append(others(), 0, impl.MaxWorkers+1) {
			all, ok := impl.GamesShared(list[:count], workers)
			wantListFailure(t, fmt.Sprint("GamesShared of ", count, " games by ", workers), all, ok)
		}
	}
	all, ok := impl.GamesShared(append(list, ownRound()), 2)
	wantListFailure(t, "GamesShared of 9 games", all, ok)
	for what, g := range invalidGames() {
		for at := range 3 {
			all, ok := impl.GamesShared(slices.Insert([]impl.Game{ownRound(), ringGame(2)}, at, g), 2)
			wantListFailure(t, "GamesShared with "+what, all, ok)
		}
	}
}

func TestTurnGame(t *testing.T) {
	turned, ok := impl.TurnGame(ownRound())
	wantGame(t, "TurnGame of the example", turned, ok, game("1", "3", "0"))
	turned, ok = impl.TurnGame(game("0110", "0712", "0123 1 03 2"))
	wantGame(t, "TurnGame of 4 nodes", turned, ok, game("1001", "1823", "0123 1 03 2"))
	turned, ok = impl.TurnGame(full(always(1), always(7)))
	wantGame(t, "TurnGame of 16 nodes", turned, ok, full(always(0), always(8)))
	for _, ranks := range []string{"8", "78", "80", "88"} {
		turned, ok = impl.TurnGame(game(zeros(len(ranks)), ranks, "0 0"[:2*len(ranks)-1]))
		wantNoGame(t, "TurnGame with the ranks "+ranks, turned, ok)
	}
}

func TestGamesThatAreNone(t *testing.T) {
	for what, g := range invalidGames() {
		reach, ok := impl.ReachOf(g, nil, 0)
		wantListFailure(t, "ReachOf in "+what, reach, ok)
		winners, ok := impl.SolveGame(g)
		wantListFailure(t, "SolveGame of "+what, winners, ok)
		moves, ok := impl.MovesOfGame(g)
		wantListFailure(t, "MovesOfGame of "+what, moves, ok)
		turned, ok := impl.TurnGame(g)
		wantNoGame(t, "TurnGame of "+what, turned, ok)
	}
}
