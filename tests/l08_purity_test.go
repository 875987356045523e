package tests

import (
	"fmt"
	"maps"
	"math/rand"
	"reflect"
	"runtime"
	"slices"
	"strings"
	"testing"

	"loop.example/g01357/impl"
)

// scripts are what the functions of chapter 8 take.
type scripts struct {
	d             impl.Desk
	lines         []string
	line, s, t    string
	m, p, g, outs string
}

// copied returns equal arguments in memory of their own, with or without unused capacity.
func (f scripts) copied(room bool) scripts {
	integers, arcs, rules, ends, lines := slices.Clone[[]int64], slices.Clone[[]impl.Arc], slices.Clone[[]impl.Rule], slices.Clone[[]bool], slices.Clone[[]string]
	if room {
		integers = func(list []int64) []int64 { return roomy(list, mark) }
		arcs = func(list []impl.Arc) []impl.Arc { return roomy(list, impl.Arc{From: mark}) }
		rules = func(list []impl.Rule) []impl.Rule { return roomy(list, impl.Rule{Left: mark}) }
		ends = func(list []bool) []bool { return roomy(list, true) }
		lines = func(list []string) []string { return roomy(list, "mark") }
	}
	m, p := &f.d.Machine, &f.d.Plain
	m.Arcs, m.Starts, m.Ends = arcs(m.Arcs), integers(m.Starts), integers(m.Ends)
	p.Next, p.Ends = integers(p.Next), ends(p.Ends)
	f.d.Grammar.Rules, f.d.Word, f.lines = rules(f.d.Grammar.Rules), integers(f.d.Word), lines(f.lines)
	return f
}

// memory tells all lists of the arguments with their unused capacity.
func (f scripts) memory() string {
	m, p, g := f.d.Machine, f.d.Plain, f.d.Grammar
	return fmt.Sprintf("%v %v %v %v %v %v %v %v %v %v %v %v %q %q %q %q",
		m.States, m.Letters, m.Arcs[:cap(m.Arcs)], m.Starts[:cap(m.Starts)], m.Ends[:cap(m.Ends)], p.States, p.Letters, p.Next[:cap(p.Next)], p.Ends[:cap(p.Ends)],
		g.Names, g.Letters, g.Rules[:cap(g.Rules)], f.lines[:cap(f.lines)], f.line, f.s, f.t)
}

// results returns the results of all functions of chapter 8, a list for each call.
func (f scripts) results() [][]any {
	return [][]any{
		gather(impl.ValidDesk(f.d)), gather(impl.SameDesk(f.d, f.d)), gather(impl.NewDesk(), true), gather(impl.MachineText(f.d.Machine)), gather(impl.PlainText(f.d.Plain)), gather(impl.GrammarText(f.d.Grammar)),
		gather(impl.ReadMachine(f.m)), gather(impl.ReadPlain(f.p)), gather(impl.ReadGrammar(f.g)),
		gather(impl.DeskCommand(f.d, f.line)), gather(impl.DeskCommand(f.d, "x")), gather(impl.DeskCommand(f.d, "word 9")), gather(impl.DeskCommand(f.d, "cost")),
		gather(impl.RunDesk(f.d, "")), gather(impl.RunDesk(f.d, f.s)), gather(impl.CountOutputs(f.outs)),
		gather(impl.JournalOf(f.lines)), gather(impl.RecoverJournal(f.t)), gather(impl.RunJournal(f.d, f.t)), gather(impl.RunJournal(f.d, "")),
	}
}

// manyScripts returns arguments of all kinds, valid and invalid ones.
func manyScripts() []scripts {
	r := rand.New(rand.NewSource(37))
	bad, whole := invalidDesks(), validDesks()
	badNames, wholeNames := slices.Sorted(maps.Keys(bad)), slices.Sorted(maps.Keys(whole))
	all := []scripts{}
	for range 800 {
		f := scripts{d: randomDesk(r), line: someLine(r)}
		switch r.Intn(8) {
		case 0:
			f.d = bad[badNames[r.Intn(len(bad))]]
		case 1:
			f.d = whole[wholeNames[r.Intn(len(whole))]]
		}
		f.m, f.p, f.g = knownMachineText(f.d.Machine), knownPlainText(f.d.Plain), knownGrammarText(f.d.Grammar)
		for range r.Intn(8) {
			f.lines = append(f.lines, someLine(r))
		}
		f.s = strings.Join(append(f.lines[:len(f.lines):len(f.lines)], ""), "\n")
		f.t, f.outs = knownJournal(f.lines...), strings.Repeat("no\nok\n", r.Intn(4))
		if r.Intn(8) == 0 {
			f.lines, f.outs, f.s, f.t = append(f.lines, "\n"), f.outs+"x", f.s+"x", f.t[:r.Intn(len(f.t)+1)]
		}
		all = append(all, f)
	}
	return all
}

func TestFunctionsOfChapter8ArePure(t *testing.T) {
	many := manyScripts()
	succeeded := make([]int, len(many[0].results()))
	for _, f := range many {
		bare, room := f.copied(false), f.copied(true)
		before, results := room.memory(), room.results()
		first, second := fmt.Sprint(bare.results()), fmt.Sprint(results)
		if first != second || first != fmt.Sprint(room.results()) {
			t.Fatalf("equal arguments, other results: %s, %s", first, second)
		}
		if room.memory() != before {
			t.Fatalf("arguments were %s, became %s", before, room.memory())
		}
		for i, result := range results {
			if result[len(result)-1] == true {
				succeeded[i]++
			}
		}
	}
	for i, count := range succeeded {
		if count < 10 {
			t.Errorf("call %d succeeded just %d times", i, count)
		}
	}
}

func TestResultsOfChapter8ShareNoMemory(t *testing.T) {
	for _, f := range manyScripts() {
		f = f.copied(true)
		// Kept together, the arguments and all results of two calls each must stand apart.
		all := []any{f.d, f.lines, f.results(), f.results()}
		if !apart(regionsOf(reflect.ValueOf(all))) {
			t.Fatalf("results share memory for %s", f.memory())
		}
		runtime.KeepAlive(all)
	}
}

// Each line of the table leaves a desk that shares no memory, neither with the one before nor in itself.
func TestDesksAfterLinesShareNoMemory(t *testing.T) {
	r := rand.New(rand.NewSource(38))
	for range 40 {
		all := []any{randomDesk(r)}
		for _, line := range strings.Split("x|word 9|machine|plain|grammar|word|machine 1,1;0;0;0,0,0,1|plain 1,1;0;1|grammar 1,1;0,0,-1,1|word 0,0|back|tidy|trim|lettered|repeat|cost|best|make|least|other|reads|first|count 2|learn|parse|trees|cheap|useful|rules|roman 9|edit a b", "|") {
			after, _, ok := impl.DeskCommand(all[len(all)-1].(impl.Desk), line)
			want(t, "DeskCommand succeeds", ok, true)
			all = append(all, after)
		}
		if !apart(regionsOf(reflect.ValueOf(all))) {
			t.Fatal("desks share memory")
		}
		runtime.KeepAlive(all)
	}
}

// No call panics or fails to end, whatever the bytes are.
func TestFunctionsOfChapter8TakeAnyBytes(t *testing.T) {
	r := rand.New(rand.NewSource(39))
	for range 3000 {
		text := randomText(r, "01,;- none\n\x00\xff\xc3machineplgwordut9", 40)
		f := scripts{d: newDesk(), line: text, s: text, t: text, m: text, p: text, g: text, outs: text, lines: strings.Split(text, " ")}
		want(t, fmt.Sprintf("results for %q", text), len(f.results()), 20)
		_, outputs, ok := impl.RunDesk(newDesk(), text)
		want(t, fmt.Sprintf("RunDesk %q succeeds", text), ok, text == "" || strings.HasSuffix(text, "\n"))
		if ok {
			want(t, fmt.Sprintf("the outputs of %q", text), strings.Count(outputs, "\n"), strings.Count(text, "\n"))
		}
	}
}
