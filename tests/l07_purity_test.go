package tests

import (
	"fmt"
	"maps"
	"math/rand"
	"reflect"
	"runtime"
	"slices"
	"testing"

	"loop.example/g01357/impl"
)

// plays are what the functions of chapter 7 take.
type plays struct {
	l                    impl.Loop
	p                    impl.Plain
	g                    impl.Game
	games                []impl.Game
	set, winners, moves  []int64
	a, b                 impl.Zone
	times, word, kinds   []int64
	kepts                []impl.Kept
	s                    string
	letters, n, at, size int64
}

// roomyGame returns an equal game whose lists have unused capacity.
func roomyGame(g impl.Game) impl.Game {
	return impl.Game{Owners: roomy(g.Owners, mark), Ranks: roomy(g.Ranks, mark), Moves: roomyAll(g.Moves)}
}

// roomyPlain returns an equal machine whose lists have unused capacity.
func roomyPlain(p impl.Plain) impl.Plain {
	p.Next, p.Ends = roomy(p.Next, mark), roomy(p.Ends, true)
	return p
}

// barePlain returns an equal machine whose lists have a memory of their own.
func barePlain(p impl.Plain) impl.Plain {
	p.Next, p.Ends = slices.Clone(p.Next), slices.Clone(p.Ends)
	return p
}

// bareGame returns an equal game whose lists have a memory of their own.
func bareGame(g impl.Game) impl.Game {
	moves := [][]int64{}
	for _, list := range g.Moves {
		moves = append(moves, slices.Clone(list))
	}
	return impl.Game{Owners: slices.Clone(g.Owners), Ranks: slices.Clone(g.Ranks), Moves: moves}
}

// copied returns equal arguments in memory of their own, with or without unused capacity.
func (f plays) copied(room bool) plays {
	integers, ofPlain, ofGame := slices.Clone[[]int64], barePlain, bareGame
	games, kepts := slices.Clone(f.games), slices.Clone(f.kepts)
	if room {
		integers, ofPlain, ofGame = func(list []int64) []int64 { return roomy(list, mark) }, roomyPlain, roomyGame
		games, kepts = roomy(f.games, impl.Game{}), roomy(f.kepts, kept("mark", impl.Plain{}))
	}
	for at := range games {
		games[at] = ofGame(games[at])
	}
	for at := range kepts {
		kepts[at].Plain = ofPlain(kepts[at].Plain)
	}
	f.games, f.kepts, f.p, f.g = games, kepts, ofPlain(f.p), ofGame(f.g)
	for _, list := range []*[]int64{&f.l.Head, &f.l.Round, &f.set, &f.winners, &f.moves, &f.a.Bounds, &f.b.Bounds, &f.times, &f.word, &f.kinds} {
		*list = integers(*list)
	}
	return f
}

// memory tells all lists of the arguments with their unused capacity.
func (f plays) memory() string {
	all := []any{f.s, f.letters, f.n, f.at, f.size, f.a.Clocks, f.b.Clocks}
	for _, list := range [][]int64{f.l.Head, f.l.Round, f.set, f.winners, f.moves, f.a.Bounds, f.b.Bounds, f.times, f.word, f.kinds} {
		all = append(all, list[:cap(list)])
	}
	for _, k := range append(f.kepts[:cap(f.kepts):cap(f.kepts)], kept("", f.p)) {
		all = append(all, k.Name, k.Plain.States, k.Plain.Letters, k.Plain.Next[:cap(k.Plain.Next)], k.Plain.Ends[:cap(k.Plain.Ends)])
	}
	for _, g := range append(f.games[:cap(f.games):cap(f.games)], f.g) {
		all = append(all, g.Owners[:cap(g.Owners)], g.Ranks[:cap(g.Ranks)], g.Moves[:cap(g.Moves)])
		for _, moves := range g.Moves {
			all = append(all, moves[:cap(moves)])
		}
	}
	return fmt.Sprint(all...)
}

// results returns the results of all functions of chapter 7, a list for each call.
func (f plays) results() [][]any {
	list, size, _ := impl.RecoverKepts(f.s)
	return [][]any{
		gather(impl.ValidLoop(f.l, f.letters)), gather(impl.NormalLoop(f.l, f.letters)), gather(impl.LetterAt(f.l, f.letters, f.at)), gather(impl.StatesOfLoop(f.p, f.l)), gather(impl.ReadsLoop(f.p, f.l)), gather(impl.FirstLoop(f.p, f.n)),
		gather(impl.ValidGame(f.g)), gather(impl.SameGame(f.g, f.g)), gather(impl.ReachOf(f.g, f.set, f.n)), gather(impl.SolveGame(f.g)), gather(impl.MovesOfGame(f.g)), gather(impl.IsWinning(f.g, f.winners, f.moves)),
		gather(impl.GamesShared(f.games, f.size)), gather(impl.GamesShared(nil, f.size)), gather(impl.TurnGame(f.g)),
		gather(impl.ValidZone(f.a)), gather(impl.SameZone(f.a, f.a)), gather(impl.WholeZone(f.size)), gather(impl.TightZone(f.a)), gather(impl.HoldsIn(f.a, f.times)), gather(impl.MeetZone(f.a, f.b)), gather(impl.MeetZone(f.b, f.b)),
		gather(impl.LaterZone(f.a)), gather(impl.ResetZone(f.a, f.n)), gather(impl.IsPartZone(f.a, f.b)), gather(impl.IsPartZone(f.b, f.b)),
		gather(impl.PartnersOf(f.word, f.kinds)), gather(impl.DepthsOf(f.word, f.kinds)),
		gather(impl.SameKept(f.kepts, f.kepts)), gather(impl.StoreKepts(f.kepts)), gather(impl.LoadKept(f.s)), gather(list, size, size > 0), gather(impl.ValidKept(kept("p", f.p))), gather(impl.StoreKept(kept("p", f.p))),
	}
}

// spoil makes some arguments of plays invalid.
func (f *plays) spoil(r *rand.Rand) {
	loops, games, zones, kepts := invalidLoops(), invalidGames(), invalidZones(), invalidKepts()
	loopNames, gameNames := slices.Sorted(maps.Keys(loops)), slices.Sorted(maps.Keys(games))
	zoneNames, keptNames := slices.Sorted(maps.Keys(zones)), slices.Sorted(maps.Keys(kepts))
	f.l, f.g, f.a = loops[loopNames[r.Intn(len(loops))]], games[gameNames[r.Intn(len(games))]], zones[zoneNames[r.Intn(len(zones))]]
	k := kepts[keptNames[r.Intn(len(kepts))]]
	f.p, f.kepts = k.Plain, append(f.kepts, k)
	f.games, f.set, f.kinds, f.times = append(f.games, f.g), append(f.set, -1), append(f.kinds, 3), append(f.times, -1)
}

// manyPlays returns arguments of all kinds, valid and invalid ones.
func manyPlays() []plays {
	r := rand.New(rand.NewSource(29))
	all := []plays{}
	for range 600 {
		f := plays{letters: 1 + r.Int63n(4), n: r.Int63n(5) - 1, at: r.Int63n(20) - 1, size: 1 + r.Int63n(4), g: randomGame(r, 8)}
		f.l, f.p, f.word = randomLoop(r, f.letters), randomPlain(r, f.letters), randomWord(r, f.letters, 12)
		f.winners, _ = impl.SolveGame(f.g)
		f.moves, _ = impl.MovesOfGame(f.g)
		f.a, f.b = randomZone(r, f.size, 5), randomZone(r, f.size, 5)
		for range f.size {
			f.times = append(f.times, r.Int63n(10))
		}
		for range f.letters {
			f.kinds = append(f.kinds, r.Int63n(3))
		}
		for node := range int64(len(f.g.Moves)) {
			if r.Intn(3) == 0 {
				f.set = append(f.set, node)
			}
		}
		for range r.Intn(4) {
			f.games, f.kepts = append(f.games, randomGame(r, 5)), append(f.kepts, randomKept(r))
		}
		f.s, _ = impl.StoreKepts(f.kepts)
		if r.Intn(8) == 0 {
			f.spoil(r)
		}
		if r.Intn(8) == 0 {
			f.s = f.s[:r.Intn(len(f.s)+1)]
		}
		all = append(all, f)
	}
	return all
}

func TestFunctionsOfChapter7ArePure(t *testing.T) {
	many := manyPlays()
	succeeded := make([]int, len(many[0].results()))
	for _, f := range many {
		bare, room := f.copied(false), f.copied(true)
		before, results := room.memory(), room.results()
		first, second := fmt.Sprint(bare.results()), fmt.Sprint(results)
		if first != second || first != fmt.Sprint(room.results()) {
			t.Fatalf("equal arguments, other results: %s, %s", first, second)
		}
		if room.memory() != before {
			t.Fatalf("arguments were %s, became %s", before, room.memory())
		}
		for i, result := range results {
			if result[len(result)-1] == true {
				succeeded[i]++
			}
		}
	}
	for i, count := range succeeded {
		if count < 10 {
			t.Errorf("call %d succeeded just %d times", i, count)
		}
	}
}

func TestResultsOfChapter7ShareNoMemory(t *testing.T) {
	for _, f := range manyPlays() {
		f = f.copied(true)
		// Kept together, the arguments and all results of two calls each must stand apart.
		all := []any{f.l, f.p, f.g, f.games, f.set, f.winners, f.moves, f.a, f.b, f.times, f.word, f.kinds, f.kepts, f.results(), f.results()}
		if !apart(regionsOf(reflect.ValueOf(all))) {
			t.Fatalf("results share memory for %s", f.memory())
		}
		runtime.KeepAlive(all)
	}
}
