package tests

import (
	"fmt"
	"math/rand"
	"strings"
	"testing"

	"loop.example/g01357/impl"
)

// partsTold returns the texts of all parts of a desk, by their names.
func partsTold(d impl.Desk) map[string]string {
	return map[string]string{"machine": knownMachineText(d.Machine), "plain": knownPlainText(d.Plain), "grammar": knownGrammarText(d.Grammar), "word": knownListText(d.Word)}
}

// deskAfter returns the desk behind lines at a new one, each of which is done.
func deskAfter(t *testing.T, lines ...string) impl.Desk {
	t.Helper()
	d := newDesk()
	for _, line := range lines {
		after, output, ok := impl.DeskCommand(d, line)
		wantText(t, "the output of "+line, output, ok, "ok")
		d = after
	}
	return d
}

// wantRow checks a line at the desk behind other lines: its output, and the text of the only part that it changes, if any.
func wantRow(t *testing.T, before, line, output, part, text string) {
	t.Helper()
	lines := []string{}
	if before != "" {
		lines = strings.Split(before, "|")
	}
	d := deskAfter(t, lines...)
	expected := partsTold(d)
	if part != "" {
		expected[part] = text
	}
	after, got, ok := impl.DeskCommand(d, line)
	wantText(t, fmt.Sprintf("the output of %q behind %q", line, before), got, ok, output)
	wantSame(t, fmt.Sprintf("the parts after %q behind %q", line, before), partsTold(after), expected)
	want(t, fmt.Sprintf("ValidDesk after %q behind %q", line, before), impl.ValidDesk(after), true)
}

func TestExamplesOfChapter8(t *testing.T) {
	wantRow(t, "", "cost", "3", "", "")
	wantRow(t, "", "reads", "never", "", "")
	wantRow(t, "", "best", "0;3", "", "")
	after, outputs, ok := impl.RunDesk(impl.NewDesk(), "cost\nreads\nbest\n")
	wantText(t, "RunDesk of the examples", outputs, ok, "3\nnever\n0;3\n")
	wantDesk(t, "RunDesk of the examples", after, ok, newDesk())
}

func TestLinesThatTellParts(t *testing.T) {
	wantRow(t, "", "machine", "2,1;0,-1;-1,0;0,1,0,3", "", "")
	wantRow(t, "", "plain", "2,1;1,0;10", "", "")
	wantRow(t, "", "grammar", "1,1;0,0,0,1,0,0,-1,1", "", "")
	wantRow(t, "", "word", "0", "", "")
	for _, part := range []string{"machine 1,4;-1;-1;none", "plain 3,1;0,1,2;010", "grammar 8,4;none", "word none", "word 3,2,1,0,0,0,0,0,0,0,0,0"} {
		name, text, _ := strings.Cut(part, " ")
		wantRow(t, "", part, "ok", name, text)
		wantRow(t, part, name, text, "", "")
		wantRow(t, part, part, "ok", "", "")
	}
}

func TestLinesThatChangeMachines(t *testing.T) {
	wantRow(t, "", "back", "ok", "machine", "2,1;-1,0;0,-1;1,0,0,3")
	wantRow(t, "machine 2,2;0,-1;-1,0;1,0,0,3,0,1,1,5,0,1,1,4,0,0,-1,7", "tidy", "ok", "machine", "2,2;0,-1;-1,0;0,0,-1,7,0,1,1,4,1,0,0,3")
	wantRow(t, "machine 3,1;0,-1,-1;-1,-1,0;0,2,0,3,0,1,0,1", "trim", "ok", "machine", "2,1;0,-1;-1,0;0,1,0,3")
	wantRow(t, "machine 2,1;0,-1;-1,2;0,1,-1,3,1,1,0,4", "lettered", "ok", "machine", "2,1;0,-1;5,2;0,1,0,7,1,1,0,4")
	wantRow(t, "", "repeat", "ok", "machine", "3,1;0,-1,-1;0,-1,-1;1,2,0,3,0,1,-1,0,2,0,-1,0")
	wantRow(t, "", "make", "ok", "plain", "3,1;1,2,2;010")
	wantRow(t, "plain 4,1;1,2,3,0;1010", "least", "ok", "plain", "2,1;1,0;10")
	wantRow(t, "", "other", "ok", "plain", "2,1;1,0;01")
	wantRow(t, "", "rules", "ok", "grammar", "3,1;0,2,1,0,1,2,0,0,1,0,-1,0,2,0,-1,0")
}

func TestLinesThatTellNumbers(t *testing.T) {
	for _, c := range [][3]string{
		{"word none", "cost", "-1"}, {"word 0,0", "cost", "-1"}, {"repeat|word 0,0", "cost", "6"}, {"repeat|word none", "cost", "0"},
		{"repeat", "best", "none;0"}, {"machine 2,2;0,-1;-1,5;0,1,1,1000,0,1,0,1000", "best", "0;1005"}, {"", "best", "0;3"},
		{"", "reads", "never"}, {"word none", "reads", "yes"}, {"other", "reads", "yes"}, {"", "first", "none"}, {"other", "first", "0"}, {"plain 3,2;0,1,1,2,2,2;001", "first", "1,1"},
		{"", "count 0", "1"}, {"", "count 1", "0"}, {"", "count 12", "1"}, {"plain 1,4;0,0,0,0;1", "count 12", "16777216"}, {"", "learn", "1"}, {"plain 3,1;1,2,0;001", "learn", "2"},
		{"", "parse", "1"}, {"word 0,0,0", "parse", "5"}, {"grammar 1,1;none", "parse", "-1"}, {"", "trees", "1"}, {"word 0,0,0", "trees", "2"}, {"word 0,0,0,0,0,0,0,0,0,0,0,0", "trees", "58786"}, {"grammar 1,1;none", "trees", "0"},
		{"", "cheap", "0;1"}, {"grammar 2,2;0,1,1,5,1,1,-1,7", "cheap", "1,1;19"}, {"", "useful", "0,1"}, {"grammar 2,1;0,1,1,0,0,0,-1,0", "useful", "1"}, {"grammar 1,1;none", "useful", "none"},
		{"", "roman 1", "I"}, {"", "roman 9", "IX"}, {"", "roman 1994", "MCMXCIV"}, {"", "roman 3999", "MMMCMXCIX"},
		{"", "edit ab b", "1"}, {"", "edit kitten sitting", "3"}, {"", "edit same same", "0"}, {"", "edit ab ba", "2"}, {"", "edit  ", "0"}, {"", "edit  abc", "3"}, {"", "edit abc ", "3"},
	} {
		wantRow(t, c[0], c[1], c[2], "", "")
	}
	wantRow(t, "", "edit "+longest()+" "+strings.Repeat("b", 48), "48", "", "")
	// A word can have any bytes but blanks.
	wantRow(t, "", "edit \xff\x00\n \t", "3", "", "")
	wantRow(t, "", "edit a\nb ab", "1", "", "")
}

func TestLinesThatAreNone(t *testing.T) {
	lines := []string{
		"", " ", "  ", "   ", "\n", "x", "what", "no", "ok", "none", "costs", "cos", "machines", "desk", "7", "\x00", "\xff", "ſ", "cost\n", "\ncost", "cost\nreads", "cost\r", "\tcost", "cost\t", "cost\x00", "machine\n", "back,",
		"Cost", "COST", "cosT", "Machine", "Edit a b", "Roman 9", "count", "roman", "edit", "edit a", "edit ", "edit a b c", "edit a b ", "edit  a b", "edit a  b", "edit   ", " edit a b", "edit\na b",
		"count 1 1", "count 1 ", "count  1", " count 1", "count\t1", "roman 9 9", "roman  9", "roman 9 ", "word 0 0", "word  0", "word 0 ", " word 0", "machine 1,1;0;0;none ", "machine  1,1;0;0;none", " machine 1,1;0;0;none", "machine 1,1;0;0; none", "plain 1,1;0;1 x", "plain  1,1;0;1", "grammar 1,1;none ", "grammar  1,1;none",
	}
	for _, name := range strings.Fields("back tidy trim lettered repeat cost best make least other reads first learn parse trees cheap useful rules") {
		lines = append(lines, name+" ", " "+name, name+" x", name+" 0", name+"  ", name+" "+name, name+name, strings.ToUpper(name), name+"\n")
	}
	for _, line := range lines {
		for _, d := range []impl.Desk{newDesk(), deskAfter(t, "word none", "plain 3,1;0,1,2;010", "repeat")} {
			wantLine(t, d, line, "what", d)
		}
	}
	wantLine(t, newDesk(), strings.Repeat("x", 100000), "what", newDesk())
	wantLine(t, newDesk(), strings.Repeat(" ", 100000), "what", newDesk())
}

func TestLinesWithWordsThatAreNone(t *testing.T) {
	for _, line := range []string{
		"machine ", "machine x", "machine none", "machine \n", "machine 2,1;0,-1;-1,0;0,1,0,3\n", "machine 2,1;0,-1;-1,0;0,1,0,1001", "machine 1,1;0;0;0,0,0", "machine 2,1;1,0;10", "plain ", "plain x", "plain 2,1;1,0;12", "plain 2,1;1,0;10\n", "plain 1,1;0;2", "plain 1,1;1;0", "grammar ", "grammar x", "grammar none", "grammar 1,1;0,0,0", "grammar 1,1;none\n", "grammar 9,1;none",
		"word ", "word x", "word 00", "word +0", "word -0", "word 0,", "word 0\n", "word none,0", "word 4", "word -1", "word 0,4", "word 0,0,0,0,0,0,0,0,0,0,0,0,0", "word " + knownListText(make([]int64, 64)), "word " + knownListText(make([]int64, 65)), "word 1000000000000000",
		"count ", "count x", "count -1", "count 13", "count 1000000000000000", "count 1000000000000001", "count 99999999999999999999", "count 00", "count 01", "count +1", "count -0", "count 1.0", "count 1\n", "count 0x1", "count none", "count ١",
		"roman ", "roman x", "roman IX", "roman 0", "roman -1", "roman 4000", "roman 1000000000000001", "roman 09", "roman +9", "roman 9\n", "roman 9223372036854775808", "edit " + tooLong() + " a", "edit a " + tooLong(), "edit  " + tooLong(), "edit " + tooLong() + " ",
	} {
		wantLine(t, newDesk(), line, "no", newDesk())
	}
}

func TestLinesWhoseFunctionFails(t *testing.T) {
	loop := knownMachineText(machine(1, []int64{-1}, []int64{-1}))
	for _, c := range [][2]string{
		{"machine " + loop, "trim"}, {"machine " + loop, "best"}, {"machine " + knownMachineText(machine(1, costs(0, 16), costs(0, 16))), "repeat"}, {"machine 2,1;0,-1;-1,1000;0,1,-1,1", "lettered"}, {"machine " + knownMachineText(chain(13)), "best"},
		{"word 1", "cost"}, {"word 3", "reads"}, {"word 1", "parse"}, {"word 1", "trees"}, {"word none", "parse"}, {"word none", "trees"}, {"plain 1,1;0;0", "first"}, {"plain " + knownPlainText(cycle(14, 13)), "first"},
		{"grammar 1,1;none", "cheap"}, {"grammar 1,1;0,0,0,1", "cheap"}, {"grammar " + knownGrammarText(doubled(5)), "cheap"}, {"plain " + knownPlainText(cycle(8, 1)), "rules"}, {"plain 5,4;" + knownListText(make([]int64, 20)) + ";00000", "rules"},
	} {
		wantRow(t, c[0], c[1], "no", "", "")
	}
	// There are too many trees for the twelve letters of this word.
	rules := "grammar 2,1;0,0,0,0,0,0,1,0,0,1,0,0,0,1,1,0,1,0,0,0,1,1,1,0,0,0,-1,0,1,0,-1,0"
	wantRow(t, rules+"|word 0,0,0,0,0,0,0,0,0,0,0,0", "trees", "no", "", "")
	wantRow(t, rules+"|word 0,0", "trees", "4", "", "")
}

// fullMachine returns a machine of some states each of which has one arc with a letter, and empty ones to some later ones.
func fullMachine(states, empty int64) impl.Machine {
	m := machine(1, costs(-1, int(states)), costs(-1, int(states)))
	m.Starts[0], m.Ends[states-1] = 0, 0
	for state := range states {
		m.Arcs = append(m.Arcs, impl.Arc{From: state, To: state, Letter: 0, Cost: 1})
		if state < empty {
			m.Arcs = append(m.Arcs, impl.Arc{From: state, To: state + 1, Letter: -1, Cost: 1})
		}
	}
	return m
}

// wantTooLarge checks that a line does what a function tells, but is refused where the result has too much for a desk.
func wantTooLarge(t *testing.T, before, line, part, text string, ok bool, size, most int) {
	t.Helper()
	want(t, "the function of "+line+" succeeds behind "+before, ok, true)
	if size > most {
		wantRow(t, before, line, "no", "", "")
	} else {
		wantRow(t, before, line, "ok", part, text)
	}
}

// The results of some functions are valid, but too large for a desk.
func TestLinesAfterWhichADeskWouldNotBeValid(t *testing.T) {
	large := map[string]int{}
	for states := int64(2); states <= 8; states++ {
		before := fullMachine(states, states-1)
		m, ok := impl.WithoutEmpty(before)
		wantTooLarge(t, "machine "+knownMachineText(before), "lettered", "machine", knownMachineText(m), ok, len(m.Arcs), 16)
		large["lettered"] = max(large["lettered"], len(m.Arcs))
	}
	for arcs := 12; arcs <= 16; arcs++ {
		before := manyArcs(2, arcs)
		m, ok := impl.RepeatOf(before)
		wantTooLarge(t, "machine "+knownMachineText(before), "repeat", "machine", knownMachineText(m), ok, len(m.Arcs), 16)
		large["repeat"] = max(large["repeat"], len(m.Arcs))
	}
	for _, before := range []impl.Machine{chain(15), lastButFive()} {
		p, ok := impl.PlainOf(before)
		wantTooLarge(t, "machine "+knownMachineText(before), "make", "plain", knownPlainText(p), ok, len(p.Next), 64)
		large["make"] = max(large["make"], len(p.Next))
	}
	for states := 1; states <= 6; states++ {
		before := plain(2, make([]int64, 2*states), costs(1, states)...)
		g, ok := impl.GrammarOf(before)
		wantTooLarge(t, "plain "+knownPlainText(before), "rules", "grammar", knownGrammarText(g), ok, len(g.Rules), 16)
		large["rules"] = max(large["rules"], len(g.Rules))
	}
	wantSame(t, "the sizes of the largest results", large, map[string]int{"lettered": 36, "repeat": 18, "make": 128, "rules": 26})
}

func TestInvalidDesksCarryOutNothing(t *testing.T) {
	journal, _ := impl.JournalOf([]string{"word none"})
	for what, d := range invalidDesks() {
		for _, line := range []string{"", "x", "word none", "machine 1,1;0;0;none", "plain", "cost", "roman 9", "roman 0"} {
			after, output, ok := impl.DeskCommand(d, line)
			wantNoDesk(t, "DeskCommand "+line+" at "+what, after, ok)
			want(t, "the output of "+line+" at "+what, output, "")
		}
		for _, script := range []string{"", "\n", "word none\n", "x"} {
			after, outputs, ok := impl.RunDesk(d, script)
			wantNoDesk(t, fmt.Sprintf("RunDesk %q at %s", script, what), after, ok)
			want(t, "the outputs at "+what, outputs, "")
		}
		for _, text := range []string{"", "x", journal} {
			after, count, ok := impl.RunJournal(d, text)
			wantNoDesk(t, fmt.Sprintf("RunJournal %q at %s", text, what), after, ok)
			want(t, "the lines of RunJournal at "+what, count, 0)
		}
	}
}

func TestValidDesksCarryOutLines(t *testing.T) {
	names := strings.Fields("machine plain grammar word back tidy trim lettered repeat cost best make least other reads first learn parse trees cheap useful rules")
	for _, d := range validDesks() {
		for _, line := range append(names, "count 3", "roman 7", "edit a b", "word 3", "machine 1,1;0;0;none", "plain 1,1;0;1", "grammar 1,1;none", "x", "count 13") {
			expected, output := knownLine(d, line)
			wantLine(t, d, line, output, expected)
		}
	}
}

func TestRandomLines(t *testing.T) {
	r := rand.New(rand.NewSource(32))
	outputs := map[string]int{}
	for range 300 {
		d := randomDesk(r)
		for range 30 {
			line := someLine(r)
			expected, output := knownLine(d, line)
			wantLine(t, d, line, output, expected)
			d = expected
			outputs[output]++
		}
	}
	for _, output := range []string{"ok", "no", "what", "yes", "never", "none", "-1"} {
		if outputs[output] < 50 {
			t.Errorf("just %d outputs are %s", outputs[output], output)
		}
	}
}

// wantScript checks what a script does at a desk.
func wantScript(t *testing.T, d impl.Desk, script, outputs string, expected impl.Desk) {
	t.Helper()
	after, got, ok := impl.RunDesk(d, script)
	wantText(t, fmt.Sprintf("the outputs of %.60q", script), got, ok, outputs)
	wantDesk(t, fmt.Sprintf("RunDesk %.60q", script), after, ok, expected)
}

func TestRunDesk(t *testing.T) {
	repeated, _ := impl.RepeatOf(one())
	for what, d := range validDesks() {
		wantScript(t, d, "", "", d)
		wantScript(t, d, "\n", "what\n", d)
		wantScript(t, d, "\n\n\n", "what\nwhat\nwhat\n", d)
		wantScript(t, d, "x\nword 9\n \n", "what\nno\nwhat\n", d)
		want(t, "ValidDesk of "+what, impl.ValidDesk(d), true)
	}
	wantScript(t, newDesk(), "word none\n", "ok\n", deskWith(func(d *impl.Desk) { d.Word = nil }))
	wantScript(t, newDesk(), "word 9\nrepeat\nword 0,0\n\ncost\n cost\nword\n", "no\nok\nok\nwhat\n6\nwhat\n0,0\n", deskWith(func(d *impl.Desk) { d.Machine, d.Word = repeated, []int64{0, 0} }))
	wantScript(t, newDesk(), "\ncost\n\n", "what\n3\nwhat\n", newDesk())
	wantScript(t, newDesk(), "cost\r\ncost\x00\n", "what\nwhat\n", newDesk())
	for _, script := range []string{"cost", "x", " ", "cost\nreads", "\ncost", "cost\n\nreads", "cost\n ", "word none\nx", "cost\n\r", "\x00"} {
		after, outputs, ok := impl.RunDesk(newDesk(), script)
		wantNoDesk(t, fmt.Sprintf("RunDesk %q", script), after, ok)
		want(t, fmt.Sprintf("the outputs of %q", script), outputs, "")
	}
}

func TestRunDeskOfLongScripts(t *testing.T) {
	wantScript(t, newDesk(), strings.Repeat("\n", 16000), strings.Repeat("what\n", 16000), newDesk())
	wantScript(t, newDesk(), strings.Repeat("word\n", 3200), strings.Repeat("0\n", 3200), newDesk())
	wantScript(t, newDesk(), strings.Repeat("x", 15999)+"\n", "what\n", newDesk())
	wantScript(t, newDesk(), strings.Repeat("word none\n", 1600), strings.Repeat("ok\n", 1600), deskWith(func(d *impl.Desk) { d.Word = nil }))
	for _, script := range []string{strings.Repeat("\n", 16001), "\n" + strings.Repeat("word\n", 3200), strings.Repeat("x", 16000) + "\n", strings.Repeat("x", 16000), strings.Repeat("word\n", 1000000)} {
		after, outputs, ok := impl.RunDesk(newDesk(), script)
		wantNoDesk(t, fmt.Sprint("RunDesk of a script of bytes ", len(script)), after, ok)
		want(t, "the outputs of a script that is too long", outputs, "")
	}
}

func TestRunDeskIsLineByLine(t *testing.T) {
	r := rand.New(rand.NewSource(33))
	for range 100 {
		first, script, outputs := randomDesk(r), "", ""
		d, bad := first, int64(0)
		lines := r.Intn(20)
		for range lines {
			line := someLine(r)
			after, output, ok := impl.DeskCommand(d, line)
			want(t, "DeskCommand succeeds", ok, true)
			d, script, outputs = after, script+line+"\n", outputs+output+"\n"
			if output == "no" || output == "what" {
				bad++
			}
		}
		wantScript(t, first, script, outputs, d)
		wantOutputsCounted(t, outputs, bad, int64(lines)-bad)
	}
}

func wantOutputsCounted(t *testing.T, text string, bad, good int64) {
	t.Helper()
	a, b, ok := impl.CountOutputs(text)
	what := fmt.Sprintf("CountOutputs %.60q", text)
	want(t, what+" succeeds", ok, true)
	want(t, what, [2]int64{a, b}, [2]int64{bad, good})
}

func TestCountOutputs(t *testing.T) {
	wantOutputsCounted(t, "", 0, 0)
	wantOutputsCounted(t, "\n", 0, 1)
	wantOutputsCounted(t, "\n\n", 0, 2)
	wantOutputsCounted(t, "no\n", 1, 0)
	wantOutputsCounted(t, "what\n", 1, 0)
	wantOutputsCounted(t, "ok\n", 0, 1)
	wantOutputsCounted(t, "no\nok\nwhat\n0;3\nno\nnever\n", 3, 3)
	wantOutputsCounted(t, "No\n no\nno \nno no\nnone\nwhatever\nWHAT\nnowhat\nn\no\nno\r\n\x00no\n", 0, 12)
	wantOutputsCounted(t, "no\n\nno\n", 2, 1)
	wantOutputsCounted(t, "x y\xff\n", 0, 1)
	wantOutputsCounted(t, strings.Repeat("\n", 16000), 0, 16000)
	wantOutputsCounted(t, strings.Repeat("what\n", 3200), 3200, 0)
	wantOutputsCounted(t, strings.Repeat("x", 15996)+"\nno\n", 1, 1)
	for _, text := range []string{"no", "what", "x", " ", "ok\nno", "\nno", "no\nwhat", "no\n ", "no\n\nx", "no\r", strings.Repeat("\n", 16001), strings.Repeat("what\n", 3200) + "\n", strings.Repeat("x", 16000), strings.Repeat("x", 16000) + "\n", strings.Repeat("no\n", 100000)} {
		a, b, ok := impl.CountOutputs(text)
		wantFailure(t, fmt.Sprintf("CountOutputs %.60q", text), [2]int64{a, b}, ok)
	}
}
