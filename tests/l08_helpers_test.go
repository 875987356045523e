package tests

import (
	"fmt"
	"math/rand"
	"regexp"
	"strings"
	"testing"

	"loop.example/g01357/impl"
)

// newDesk is the new desk of the document.
func newDesk() impl.Desk {
	return impl.Desk{Machine: one(), Plain: even(), Grammar: grammar(1, 1, "0>00:1 0>a:1"), Word: []int64{0}}
}

// deskWith returns a new desk that is changed.
func deskWith(change func(d *impl.Desk)) impl.Desk {
	d := newDesk()
	change(&d)
	return d
}

// wideArcs returns a machine of 16 states with so many arcs.
func wideArcs(arcs int) impl.Machine { return manyArcs(16, arcs) }

// wideNext returns a plain machine with so many states and letters, all of which lead to the last state, the only end.
func wideNext(states, letters int64) impl.Plain {
	p := impl.Plain{States: states, Letters: letters, Ends: make([]bool, states)}
	for range states * letters {
		p.Next = append(p.Next, states-1)
	}
	p.Ends[states-1] = true
	return p
}

// validDesks are desks at all limits.
func validDesks() map[string]impl.Desk {
	return map[string]impl.Desk{
		"a new desk": newDesk(), "16 arcs": deskWith(func(d *impl.Desk) { d.Machine = wideArcs(16) }), "no arcs": deskWith(func(d *impl.Desk) { d.Machine = wideArcs(0) }),
		"64 Next of 1 letter": deskWith(func(d *impl.Desk) { d.Plain = wideNext(64, 1) }), "64 Next of 4 letters": deskWith(func(d *impl.Desk) { d.Plain = wideNext(16, 4) }),
		"16 rules": deskWith(func(d *impl.Desk) { d.Grammar = manyRules(16) }), "no rules": deskWith(func(d *impl.Desk) { d.Grammar = grammar(8, 4, "") }),
		"a word of 12 letters": deskWith(func(d *impl.Desk) { d.Word = costs(3, 12) }), "no word": deskWith(func(d *impl.Desk) { d.Word = nil }), "an empty word": deskWith(func(d *impl.Desk) { d.Word = []int64{} }),
	}
}

// invalidDesks are desks just past a limit, and with parts that are not valid.
func invalidDesks() map[string]impl.Desk {
	all := map[string]impl.Desk{
		"nothing": {}, "17 arcs": deskWith(func(d *impl.Desk) { d.Machine = wideArcs(17) }), "128 arcs": deskWith(func(d *impl.Desk) { d.Machine = wideArcs(128) }),
		"66 Next of 2 letters": deskWith(func(d *impl.Desk) { d.Plain = wideNext(33, 2) }), "66 Next of 3 letters": deskWith(func(d *impl.Desk) { d.Plain = wideNext(22, 3) }), "68 Next of 4 letters": deskWith(func(d *impl.Desk) { d.Plain = wideNext(17, 4) }),
		"17 rules": deskWith(func(d *impl.Desk) { d.Grammar = manyRules(17) }), "a word of 13 letters": deskWith(func(d *impl.Desk) { d.Word = costs(0, 13) }),
		"the letter 4": deskWith(func(d *impl.Desk) { d.Word = []int64{0, 4} }), "the letter -1": deskWith(func(d *impl.Desk) { d.Word = []int64{-1} }),
	}
	for what, m := range invalidMachines() {
		all["a machine with "+what] = deskWith(func(d *impl.Desk) { d.Machine = m })
	}
	for what, p := range invalidPlains() {
		all["a plain machine with "+what] = deskWith(func(d *impl.Desk) { d.Plain = p })
	}
	for what, g := range invalidGrammars() {
		all["a grammar with "+what] = deskWith(func(d *impl.Desk) { d.Grammar = g })
	}
	return all
}

// randomDesk returns a valid desk whose parts now and then have equal letters.
func randomDesk(r *rand.Rand) impl.Desk {
	letters := func() int64 { return 1 + r.Int63n(1+r.Int63n(4)) }
	d := impl.Desk{Machine: randomMachine(r, letters(), r.Intn(2) == 0), Plain: randomPlain(r, letters()), Grammar: randomGrammar(r, letters(), 4, 8), Word: randomWord(r, letters(), 5)}
	d.Grammar.Rules = d.Grammar.Rules[:min(16, len(d.Grammar.Rules))]
	return d
}

func wantDesk(t *testing.T, what string, got impl.Desk, ok bool, expected impl.Desk) {
	t.Helper()
	want(t, what+" succeeds", ok, true)
	wantSame(t, what, got, expected)
}

func wantNoDesk(t *testing.T, what string, got impl.Desk, ok bool) {
	t.Helper()
	wantNoMachine(t, what, got.Machine, ok)
	wantNoPlain(t, what, got.Plain, ok)
	wantNoGrammar(t, what, got.Grammar, ok)
	wantListFailure(t, what, got.Word, ok)
}

// wantLine checks what a line does at a desk.
func wantLine(t *testing.T, d impl.Desk, line, output string, expected impl.Desk) {
	t.Helper()
	after, got, ok := impl.DeskCommand(d, line)
	what := fmt.Sprintf("DeskCommand %.80q at %.200s", line, fmt.Sprint(d))
	wantText(t, "the output of "+what, got, ok, output)
	wantDesk(t, what, after, ok, expected)
}

// Forms of the lines of the table.
var (
	formOfText   = regexp.MustCompile(`(?s)^(machine|plain|grammar|word) ([^ ]*)$`)
	formOfNumber = regexp.MustCompile(`(?s)^(count|roman) ([^ ]*)$`)
	formOfTexts  = regexp.MustCompile(`(?s)^edit ([^ ]*) ([^ ]*)$`)
	formAlone    = regexp.MustCompile(`^(machine|plain|grammar|word|back|tidy|trim|lettered|repeat|cost|best|make|least|other|reads|first|learn|parse|trees|cheap|useful|rules)$`)
)

// numberTold returns a number in decimal.
func numberTold(n int64, ok bool) (string, bool) { return fmt.Sprint(n), ok }

// listTold returns a list with commas.
func listTold(list []int64, ok bool) (string, bool) { return knownListText(list), ok }

// pricedTold returns a list with commas, and its cost.
func pricedTold(list []int64, cost int64, ok bool) (string, bool) {
	return fmt.Sprint(knownListText(list), ";", cost), ok
}

// knownChange returns a desk after a line that changes a part, and whether the line is done.
func knownChange(d impl.Desk, name, text string) (after impl.Desk, ok bool) {
	after = d
	switch name {
	case "machine":
		after.Machine, ok = impl.ReadMachine(text)
	case "plain":
		after.Plain, ok = impl.ReadPlain(text)
	case "grammar":
		after.Grammar, ok = impl.ReadGrammar(text)
	case "word":
		after.Word, ok = impl.ReadList(text)
	case "back":
		after.Machine, ok = impl.BackOf(d.Machine)
	case "tidy":
		after.Machine, ok = impl.TidyOf(d.Machine)
	case "trim":
		after.Machine, ok = impl.TrimOf(d.Machine)
	case "lettered":
		after.Machine, ok = impl.WithoutEmpty(d.Machine)
	case "repeat":
		after.Machine, ok = impl.RepeatOf(d.Machine)
	case "make":
		after.Plain, ok = impl.PlainOf(d.Machine)
	case "least":
		after.Plain, ok = impl.LeastPlain(d.Plain)
	case "other":
		after.Plain, ok = impl.OtherPlain(d.Plain)
	case "rules":
		after.Grammar, ok = impl.GrammarOf(d.Plain)
	}
	return after, ok && impl.ValidDesk(after)
}

// knownAnswer returns the output of a line with a name alone that changes nothing, and whether it is one that is told.
func knownAnswer(d impl.Desk, name string) (string, bool) {
	switch name {
	case "machine":
		return knownMachineText(d.Machine), true
	case "plain":
		return knownPlainText(d.Plain), true
	case "grammar":
		return knownGrammarText(d.Grammar), true
	case "word":
		return knownListText(d.Word), true
	case "cost":
		return numberTold(impl.CostOf(d.Machine, d.Word))
	case "best":
		return pricedTold(impl.BestWord(d.Machine))
	case "reads":
		reads, ok := impl.ReadsWord(d.Plain, d.Word)
		return map[bool]string{true: "yes", false: "never"}[reads], ok
	case "first":
		return listTold(impl.FirstWord(d.Plain))
	case "learn":
		_, guesses, ok := impl.LearnPlain(d.Plain)
		return numberTold(guesses, ok)
	case "parse":
		return numberTold(impl.ParseCost(d.Grammar, d.Word))
	case "trees":
		return numberTold(impl.CountTrees(d.Grammar, d.Word))
	case "cheap":
		return pricedTold(impl.CheapWord(d.Grammar))
	case "useful":
		return listTold(impl.UsefulRules(d.Grammar))
	}
	return "", false
}

// knownLine returns a desk after a line and the output, as the forms of lines and the functions tell.
func knownLine(d impl.Desk, line string) (impl.Desk, string) {
	output, ok := "", false
	switch {
	case formOfText.MatchString(line):
		parts := formOfText.FindStringSubmatch(line)
		if after, ok := knownChange(d, parts[1], parts[2]); ok {
			return after, "ok"
		}
	case formOfNumber.MatchString(line):
		parts := formOfNumber.FindStringSubmatch(line)
		if n, isNumber := impl.ReadDecimal(parts[2]); isNumber && parts[1] == "count" {
			output, ok = numberTold(impl.CountWords(d.Plain, n))
		} else if isNumber {
			output, ok = impl.RomanOf(n)
		}
	case formOfTexts.MatchString(line):
		parts := formOfTexts.FindStringSubmatch(line)
		output, ok = numberTold(impl.EditCost(parts[1], parts[2], 1, 1, 1))
	case formAlone.MatchString(line):
		output, ok = knownAnswer(d, line)
		if after, ok := knownChange(d, line, ""); ok && output == "" {
			return after, "ok"
		}
	default:
		return d, "what"
	}
	if !ok {
		return d, "no"
	}
	return d, output
}

// randomLine returns a line, often of the table.
func randomLine(r *rand.Rand) string {
	names := strings.Fields("machine plain grammar word back tidy trim lettered repeat cost best make least other reads first learn parse trees cheap useful rules machine machine plain plain grammar grammar word word word count count roman roman edit edit cost reads parse costs Cost none")
	line := names[r.Intn(len(names))]
	switch line {
	case "machine":
		line += " " + knownMachineText(randomMachine(r, 1+r.Int63n(3), true))
	case "plain":
		line += " " + knownPlainText(randomPlain(r, 1+r.Int63n(3)))
	case "grammar":
		line += " " + knownGrammarText(randomGrammar(r, 1+r.Int63n(3), 3, 5))
	case "word":
		line += " " + knownListText(randomWord(r, 1+r.Int63n(5), 6))
	case "count", "roman":
		line += fmt.Sprint(" ", r.Int63n(20)-2)
	case "edit":
		line += " " + randomText(r, "abc", 5) + " " + randomText(r, "abc", 5)
	}
	if at := r.Intn(40); at < len(line) {
		line = line[:at] + string(" 01,;x"[r.Intn(6)]) + line[at+r.Intn(2):]
	}
	return line
}

// someLine returns a random line, in which the text behind a name is left out now and then.
func someLine(r *rand.Rand) string {
	line := randomLine(r)
	if name, _, found := strings.Cut(line, " "); found && r.Intn(4) == 0 {
		return name
	}
	return line
}

func TestLimitsOfChapter8(t *testing.T) {
	want(t, "MaxScript", impl.MaxScript, 16000)
}

func TestValidDesk(t *testing.T) {
	wantValid(t, "ValidDesk", impl.ValidDesk, validDesks(), invalidDesks())
}

func TestSameDesk(t *testing.T) {
	wantSameAlone(t, "SameDesk", impl.SameDesk, newDesk(), invalidDesks())
	empty := impl.Desk{
		Machine: impl.Machine{Arcs: []impl.Arc{}, Starts: []int64{}, Ends: []int64{}}, Plain: impl.Plain{Next: []int64{}, Ends: []bool{}},
		Grammar: impl.Grammar{Rules: []impl.Rule{}}, Word: []int64{},
	}
	want(t, "SameDesk of nil lists and empty ones", impl.SameDesk(impl.Desk{}, empty), true)
	want(t, "SameDesk of equal desks", impl.SameDesk(newDesk(), newDesk()), true)
	for what, other := range map[string]impl.Desk{
		"another machine": deskWith(func(d *impl.Desk) { d.Machine.Arcs[0].Cost++ }), "another start": deskWith(func(d *impl.Desk) { d.Machine.Starts[1]++ }),
		"another plain machine": deskWith(func(d *impl.Desk) { d.Plain.Ends[1] = true }), "another next state": deskWith(func(d *impl.Desk) { d.Plain.Next[1]++ }),
		"another grammar": deskWith(func(d *impl.Desk) { d.Grammar.Rules[1].Cost++ }), "more names": deskWith(func(d *impl.Desk) { d.Grammar.Names++ }),
		"another word": deskWith(func(d *impl.Desk) { d.Word[0]++ }), "no word": deskWith(func(d *impl.Desk) { d.Word = nil }), "a longer word": deskWith(func(d *impl.Desk) { d.Word = []int64{0, 0} }),
	} {
		want(t, "SameDesk of a new desk and one with "+what, impl.SameDesk(newDesk(), other), false)
		want(t, "SameDesk of a desk with "+what+" and a new one", impl.SameDesk(other, newDesk()), false)
	}
}

func TestNewDesk(t *testing.T) {
	wantSame(t, "NewDesk", impl.NewDesk(), newDesk())
	want(t, "ValidDesk of a new desk", impl.ValidDesk(impl.NewDesk()), true)
	d := impl.NewDesk()
	d.Word[0], d.Plain.Next[0], d.Machine.Arcs[0].Cost, d.Grammar.Rules[0].Cost = 3, 3, 7, 7
	wantSame(t, "NewDesk behind a change of another one", impl.NewDesk(), newDesk())
}
