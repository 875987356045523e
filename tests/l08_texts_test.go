package tests

import (
	"fmt"
	"math/rand"
	"regexp"
	"slices"
	"strconv"
	"strings"
	"testing"

	"loop.example/g01357/impl"
)

// knownListText returns a list with commas, none for an empty one.
func knownListText(list []int64) string {
	if len(list) == 0 {
		return "none"
	}
	return strings.ReplaceAll(strings.Trim(fmt.Sprint(list), "[]"), " ", ",")
}

// numbersOfArcs returns the numbers of the arcs of a machine, one behind the other.
func numbersOfArcs(m impl.Machine) []int64 {
	list := []int64{}
	for _, a := range m.Arcs {
		list = append(list, a.From, a.To, a.Letter, a.Cost)
	}
	return list
}

// numbersOfRules returns the numbers of the rules of a grammar, one behind the other.
func numbersOfRules(g impl.Grammar) []int64 {
	list := []int64{}
	for _, r := range g.Rules {
		list = append(list, r.Left, r.First, r.Second, r.Cost)
	}
	return list
}

func knownMachineText(m impl.Machine) string {
	return fmt.Sprintf("%d,%d;%s;%s;%s", m.States, m.Letters, knownListText(m.Starts), knownListText(m.Ends), knownListText(numbersOfArcs(m)))
}

func knownPlainText(p impl.Plain) string {
	ends := ""
	for _, end := range p.Ends {
		ends += map[bool]string{true: "1", false: "0"}[end]
	}
	return fmt.Sprintf("%d,%d;%s;%s", p.States, p.Letters, knownListText(p.Next), ends)
}

func knownGrammarText(g impl.Grammar) string {
	return fmt.Sprintf("%d,%d;%s", g.Names, g.Letters, knownListText(numbersOfRules(g)))
}

// haveTexts reports whether all lists have texts: at most 64 numbers that are not too great.
func haveTexts(lists ...[]int64) bool {
	for _, list := range lists {
		if len(list) > 64 || slices.ContainsFunc(list, func(n int64) bool { return n > 1e15 || n < -1e15 }) {
			return false
		}
	}
	return true
}

func TestExamplesOfTexts(t *testing.T) {
	for expected, m := range map[string]impl.Machine{
		"2,1;0,-1;-1,0;0,1,0,3": one(), "1,1;-1;-1;none": machine(1, []int64{-1}, []int64{-1}), "0,0;none;none;none": {}, "-7,1000000000000000;none;5;none": {States: -7, Letters: impl.MaxValue, Ends: []int64{5}},
		"2,4;7,1000;0,-1;0,1,-1,0,1,0,3,1000": machine(4, []int64{7, 1000}, []int64{0, -1}, [4]int64{0, 1, -1, 0}, [4]int64{1, 0, 3, 1000}),
	} {
		text, ok := impl.MachineText(m)
		wantText(t, "MachineText", text, ok, expected)
	}
	for expected, p := range map[string]impl.Plain{
		"2,1;1,0;10": even(), "1,2;0,0;0": plain(2, []int64{0, 0}, 0), "0,0;none;": {}, "3,1;none;01": {States: 3, Letters: 1, Ends: []bool{false, true}}, "1,1;-1000000000000000;": {States: 1, Letters: 1, Next: []int64{-impl.MaxValue}},
	} {
		text, ok := impl.PlainText(p)
		wantText(t, "PlainText", text, ok, expected)
	}
	for expected, g := range map[string]impl.Grammar{
		"1,1;0,0,0,1,0,0,-1,1": grammar(1, 1, "0>00:1 0>a:1"), "8,4;none": grammar(8, 4, ""), "0,0;none": {}, "3,2;0,1,2,5,2,1,-1,1000": grammar(3, 2, "0>12:5 2>b:1000"), "-1,9;-2,-3,-4,-5": {Names: -1, Letters: 9, Rules: []impl.Rule{{Left: -2, First: -3, Second: -4, Cost: -5}}},
	} {
		text, ok := impl.GrammarText(g)
		wantText(t, "GrammarText", text, ok, expected)
	}
}

// kind is what has texts of one form: the functions for them, what is known of a text, and the lists of which it is made.
type kind[P any] struct {
	name    string
	textOf  func(P) (string, bool)
	read    func(string) (P, bool)
	known   func(P) string
	lists   func(P) [][]int64
	knownAs func(string) (P, bool)
}

var (
	machines = kind[impl.Machine]{"Machine", impl.MachineText, impl.ReadMachine, knownMachineText, func(m impl.Machine) [][]int64 {
		return [][]int64{{m.States, m.Letters}, m.Starts, m.Ends, numbersOfArcs(m)}
	}, knownMachine}
	plains = kind[impl.Plain]{"Plain", impl.PlainText, impl.ReadPlain, knownPlainText, func(p impl.Plain) [][]int64 {
		return [][]int64{{p.States, p.Letters}, p.Next}
	}, knownPlain}
	grammars = kind[impl.Grammar]{"Grammar", impl.GrammarText, impl.ReadGrammar, knownGrammarText, func(g impl.Grammar) [][]int64 {
		return [][]int64{{g.Names, g.Letters}, numbersOfRules(g)}
	}, knownGrammar}
)

// wantText checks the text of a part, and whether it is read back.
func (k kind[P]) wantText(t *testing.T, what string, part P, isValid bool) {
	t.Helper()
	text, ok := k.textOf(part)
	if !haveTexts(k.lists(part)...) {
		wantFailure(t, k.name+"Text of "+what, text, ok)
		return
	}
	wantText(t, k.name+"Text of "+what, text, ok, k.known(part))
	k.wantRead(t, text, part, isValid)
}

// wantRead checks what is read of a text: a part, or nothing.
func (k kind[P]) wantRead(t *testing.T, text string, part P, isRead bool) {
	t.Helper()
	var nothing P
	if !isRead {
		part = nothing
	}
	what := fmt.Sprintf("Read%s %.60q", k.name, text)
	read, ok := k.read(text)
	want(t, what+" succeeds", ok, isRead)
	wantSame(t, what, read, part)
}

// wantAsKnown checks what is read of a text that may be none, and returns how many parts it has been read as.
func (k kind[P]) wantAsKnown(t *testing.T, text string) int {
	t.Helper()
	part, isKnown := k.knownAs(text)
	k.wantRead(t, text, part, isKnown)
	if isKnown {
		return 1
	}
	return 0
}

func TestTextsAreReadBack(t *testing.T) {
	for what, d := range validDesks() {
		machines.wantText(t, what, d.Machine, true)
		plains.wantText(t, what, d.Plain, true)
		grammars.wantText(t, what, d.Grammar, true)
	}
	for what, m := range validMachines() {
		machines.wantText(t, what, m, true)
	}
	for what, p := range validPlains() {
		plains.wantText(t, what, p, true)
	}
	for what, g := range validGrammars() {
		grammars.wantText(t, what, g, true)
	}
	r := rand.New(rand.NewSource(31))
	for range 300 {
		d := randomDesk(r)
		machines.wantText(t, "a random machine", d.Machine, true)
		plains.wantText(t, "a random plain machine", d.Plain, true)
		grammars.wantText(t, "a random grammar", d.Grammar, true)
	}
}

// Parts that are not valid have a text where ListText does not fail, which is read as none.
func TestTextsOfInvalidParts(t *testing.T) {
	for what, m := range invalidMachines() {
		machines.wantText(t, what, m, false)
	}
	for what, p := range invalidPlains() {
		plains.wantText(t, what, p, false)
	}
	for what, g := range invalidGrammars() {
		grammars.wantText(t, what, g, false)
	}
}

func TestTextsOfLongLists(t *testing.T) {
	for arcs := range 40 {
		text, ok := impl.MachineText(wideArcs(arcs))
		if arcs > 16 {
			wantFailure(t, fmt.Sprint("MachineText of arcs ", arcs), text, ok)
		}
		machines.wantText(t, fmt.Sprint("arcs ", arcs), wideArcs(arcs), true)
		text, ok = impl.GrammarText(manyRules(arcs))
		if arcs > 16 {
			wantFailure(t, fmt.Sprint("GrammarText of rules ", arcs), text, ok)
		}
		grammars.wantText(t, fmt.Sprint("rules ", arcs), manyRules(arcs), arcs <= 32)
	}
	for states := int64(1); states <= 64; states++ {
		for letters := int64(1); letters <= 4; letters++ {
			text, ok := impl.PlainText(wideNext(states, letters))
			if states*letters > 64 {
				wantFailure(t, fmt.Sprint("PlainText of states and letters ", states, letters), text, ok)
			}
			plains.wantText(t, fmt.Sprint("states and letters ", states, letters), wideNext(states, letters), true)
		}
	}
	for _, size := range []int{63, 64, 65, 1000} {
		machines.wantText(t, fmt.Sprint("starts ", size), impl.Machine{Starts: costs(0, size)}, false)
		machines.wantText(t, fmt.Sprint("ends ", size), impl.Machine{Ends: costs(0, size)}, false)
		plains.wantText(t, fmt.Sprint("ends of a plain machine ", size), impl.Plain{States: 1, Letters: 1, Next: []int64{0}, Ends: make([]bool, size)}, false)
		plains.wantText(t, fmt.Sprint("next states ", size), impl.Plain{Next: costs(0, size)}, false)
	}
	for _, n := range []int64{impl.MaxValue, -impl.MaxValue, impl.MaxValue + 1, -impl.MaxValue - 1} {
		machines.wantText(t, fmt.Sprint("the end ", n), machine(1, []int64{0}, []int64{n}), false)
		plains.wantText(t, fmt.Sprint("the next state ", n), plain(1, []int64{n}, 0), false)
		grammars.wantText(t, fmt.Sprint("the cost ", n), impl.Grammar{Names: 1, Letters: 1, Rules: []impl.Rule{{Second: -1, Cost: n}}}, false)
	}
}

func TestReadMachineOfOtherTexts(t *testing.T) {
	for _, text := range []string{
		"", ";", ";;;", "none", "none;none;none;none", "2,1", "2,1;0,-1;-1,0", "2,1;0,-1;-1,0;", "2,1;0,-1;-1,0;0,1,0,3;", ";2,1;0,-1;-1,0;0,1,0,3", "2,1;0,-1;-1,0;0,1,0,3;none", "2,1;;0,-1;-1,0;0,1,0,3",
		"2;0,-1;-1,0;0,1,0,3", "2,1,0;0,-1;-1,0;0,1,0,3", "none;0,-1;-1,0;0,1,0,3", ";0,-1;-1,0;0,1,0,3", "2,1;none;-1,0;0,1,0,3", "2,1;;-1,0;0,1,0,3", "2,1;0,-1;none;0,1,0,3", "2,1;0,-1;-1,0;none,none",
		"2,1;0;-1,0;0,1,0,3", "2,1;0,-1,0;-1,0;0,1,0,3", "2,1;0,-1;-1;0,1,0,3", "2,1;0,-1;-1,0;0,1,0", "2,1;0,-1;-1,0;0,1,0,3,0", "2,1;0,-1;-1,0;0,1,0,3,0,1", "2,1;0,-1;-1,0;0", "2,1;0,-1;-1,0;0,1,0,3,0,1,0",
		"2,+1;0,-1;-1,0;0,1,0,3", "02,1;0,-1;-1,0;0,1,0,3", "2,1;00,-1;-1,0;0,1,0,3", "2,1;-0,-1;-1,0;0,1,0,3", "2,1;0,-01;-1,0;0,1,0,3", "2,1;0,--1;-1,0;0,1,0,3", "2,1;0,-1;-1,0;0,1,0,03", "2,1;0,-1;-1,0;0,1,0,+3",
		"2,1;0,x;-1,0;0,1,0,3", "2,1;0,1.5;-1,0;0,1,0,3", "2,1;0,-1;-1,0;0,1,0,0x3", "2,1;0,;-1,0;0,1,0,3", "2,1;,0,-1;-1,0;0,1,0,3", "2,1;0,-1;-1,0;0,1,0,3,", "2,1; 0,-1;-1,0;0,1,0,3", "2,1;0,-1;-1,0;0,1,0,3 ", "2,1;0,-1;-1,0;0,1,0,3\n", "2,1:0,-1:-1,0:0,1,0,3", "2 1;0 -1;-1 0;0 1 0 3",
		"3,1;0,-1;-1,0;0,1,0,3", "1,1;0,-1;-1,0;0,1,0,3", "2,0;0,-1;-1,0;none", "2,5;0,-1;-1,0;0,1,0,3", "0,1;none;none;none", "2,1;0,-2;-1,0;0,1,0,3", "2,1;0,-1;-1,1001;0,1,0,3", "2,1;0,-1;-1,0;0,2,0,3", "2,1;0,-1;-1,0;0,1,1,3", "2,1;0,-1;-1,0;0,1,-2,3", "2,1;0,-1;-1,0;0,1,0,1001", "2,1;0,-1;-1,0;0,1,0,-1",
		"2,1;0,-1;-1,0;0,1,0,1000000000000001", "2,1;0,-1;-1,0;0,1,0,99999999999999999999", "2,1;0,-1;-1,0;NONE", "2,1;0,-1;-1,0;None", "2,1;0,-1;-1,0;none\x00", "\xff,1;0,-1;-1,0;none", "2,1;0,-1;-1,0;٣", strings.Repeat(";", 100000), strings.Repeat("0,", 100000),
		"2,1;0,-1;-1,0;" + knownListText(make([]int64, 65)), "2,1;0,-1;-1,0;" + knownListText(make([]int64, 68)), knownMachineText(wideArcs(17)), knownMachineText(wideArcs(128)), knownPlainText(even()), knownGrammarText(twice()),
	} {
		machines.wantRead(t, text, impl.Machine{}, false)
	}
	machines.wantRead(t, "2,1;0,-1;-1,0;0,1,0,3", one(), true)
	machines.wantRead(t, "1,1;0;0;none", machine(1, []int64{0}, []int64{0}), true)
}

func TestReadPlainOfOtherTexts(t *testing.T) {
	for _, text := range []string{
		"", ";", ";;", "none", "none;none;", "none;none;none", "2,1", "2,1;1,0", "2,1;1,0;", "2,1;1,0;10;", ";2,1;1,0;10", "2,1;;1,0;10", "2,1;1,0;10;10", "2,1;1,0;;10",
		"2;1,0;10", "2,1,1;1,0;10", ";1,0;10", "none;1,0;10", "2,1;;10", "2,1;none;10", "2,1;1,0;none", "2,1;1;10", "2,1;1,0,0;10", "2,1;1,0;1", "2,1;1,0;100",
		"2,1;1,0;12", "2,1;1,0;1x", "2,1;1,0;1,0", "2,1;1,0; 10", "2,1;1,0;10 ", "2,1;1,0;10\n", "2,1;1,0;-1", "2,1;1,0;+1", "2,1;1,0;1/", "2,1;1,0;1\x00", "2,1;1,0;1\xff", "2,1;1,0;1٠", "2,1;1,0;1\xb0", "2,1;1,0;yn", "2,1;1,0;true",
		"2,1;1,+0;10", "2,1;01,0;10", "2,1;1,-0;10", "02,1;1,0;10", "+2,1;1,0;10", "2,1;1,x;10", "2,1;1,;10", "2,1;1 0;10", "2,1;1,2;10", "2,1;1,-1;10", "1,1;0;2",
		"3,1;1,0;10", "1,1;1,0;10", "0,1;none;", "0,0;none;", "2,0;none;10", "2,5;0,0,0,0,0,0,0,0,0,0;10", "2,-1;1,0;10", "-2,1;1,0;10", "2,1;1,1000000000000001;10", "1,1000000000000000;0;1", strings.Repeat(";", 100000), "1,1;0;" + strings.Repeat("1", 100000),
		knownPlainText(cycle(65)), knownPlainText(wideNext(33, 2)), knownPlainText(wideNext(64, 4)), knownMachineText(one()), knownGrammarText(twice()),
	} {
		plains.wantRead(t, text, impl.Plain{}, false)
	}
	plains.wantRead(t, "2,1;1,0;10", even(), true)
	plains.wantRead(t, "1,1;0;0", cycle(1), true)
}

func TestReadGrammarOfOtherTexts(t *testing.T) {
	for _, text := range []string{
		"", ";", "none", "none;none", "1,1", "1,1;", ";none", ";;", "1,1;none;", "1,1;none;none", ";1,1;none", "1,1;;none", "1;none", "1,1,1;none", "none;0,0,-1,1", "1,1;0", "1,1;0,0", "1,1;0,0,0", "1,1;0,0,0,0,0", "1,1;0,0,-1,1,0,0,-1", "1,1;0,0,-1,1,",
		"1,1;0,0,-1,+1", "1,1;0,0,-1,01", "1,1;0,0,-01,1", "1,1;-0,0,-1,1", "01,1;none", "1,+1;none", "1,1;0,0,x,1", "1,1; none", "1,1;none ", "1,1;none\n", "1,1;0 0 -1 1", "1.1;none", "1,1;none,none", "1,1;NONE",
		"0,0;none", "0,1;none", "9,1;none", "1,0;none", "1,5;none", "-1,1;none", "1,-1;none", "1,1;1,0,-1,1", "1,1;0,1,-1,1", "1,1;0,0,-2,1", "1,1;0,0,1,1", "1,1;0,0,-1,1001", "1,1;0,0,-1,-1", "1,1;-1,0,-1,1", "1,1;0,-1,-1,1", "1,1;0,0,-1,1000000000000001",
		strings.Repeat(";", 100000), "1,1;" + knownListText(make([]int64, 68)), knownGrammarText(manyRules(17)), knownGrammarText(manyRules(32)), knownMachineText(one()), knownPlainText(even()),
	} {
		grammars.wantRead(t, text, impl.Grammar{}, false)
	}
	grammars.wantRead(t, "1,1;0,0,0,1,0,0,-1,1", grammar(1, 1, "0>00:1 0>a:1"), true)
	grammars.wantRead(t, "8,4;none", grammar(8, 4, ""), true)
}

// Texts of lists of numbers, one behind the other.
var (
	listForm   = `(?:none|(?:0|-?[1-9][0-9]*)(?:,(?:0|-?[1-9][0-9]*))*)`
	sizeForm   = `(?:0|-?[1-9][0-9]*),(?:0|-?[1-9][0-9]*)`
	textsForm  = regexp.MustCompile(`^(` + sizeForm + `);(` + listForm + `);(` + listForm + `);(` + listForm + `)$`)
	plainForm  = regexp.MustCompile(`^(` + sizeForm + `);(` + listForm + `);([01]*)$`)
	parsesForm = regexp.MustCompile(`^(` + sizeForm + `);(` + listForm + `)$`)
)

// knownNumbers returns the numbers of a text of the right form.
func knownNumbers(text string) []int64 {
	list := []int64{}
	for _, part := range strings.Split(text, ",") {
		if n, err := strconv.ParseInt(part, 10, 64); err == nil {
			list = append(list, n)
		}
	}
	return list
}

// knownMachine returns the valid machine with a text, if there is one.
func knownMachine(text string) (impl.Machine, bool) {
	parts := textsForm.FindStringSubmatch(text)
	if parts == nil {
		return impl.Machine{}, false
	}
	size, numbers := knownNumbers(parts[1]), knownNumbers(parts[4])
	m := impl.Machine{States: size[0], Letters: size[1], Starts: knownNumbers(parts[2]), Ends: knownNumbers(parts[3])}
	for at := 0; at+4 <= len(numbers); at += 4 {
		m.Arcs = append(m.Arcs, impl.Arc{From: numbers[at], To: numbers[at+1], Letter: numbers[at+2], Cost: numbers[at+3]})
	}
	return m, len(numbers)%4 == 0 && impl.ValidMachine(m)
}

// knownPlain returns the valid plain machine with a text, if there is one.
func knownPlain(text string) (impl.Plain, bool) {
	parts := plainForm.FindStringSubmatch(text)
	if parts == nil {
		return impl.Plain{}, false
	}
	size := knownNumbers(parts[1])
	p := impl.Plain{States: size[0], Letters: size[1], Next: knownNumbers(parts[2])}
	for _, end := range parts[3] {
		p.Ends = append(p.Ends, end == '1')
	}
	return p, impl.ValidPlain(p)
}

// knownGrammar returns the valid grammar with a text, if there is one.
func knownGrammar(text string) (impl.Grammar, bool) {
	parts := parsesForm.FindStringSubmatch(text)
	if parts == nil {
		return impl.Grammar{}, false
	}
	size, numbers := knownNumbers(parts[1]), knownNumbers(parts[2])
	g := impl.Grammar{Names: size[0], Letters: size[1]}
	for at := 0; at+4 <= len(numbers); at += 4 {
		g.Rules = append(g.Rules, impl.Rule{Left: numbers[at], First: numbers[at+1], Second: numbers[at+2], Cost: numbers[at+3]})
	}
	return g, len(numbers)%4 == 0 && impl.ValidGrammar(g)
}

// changedTexts returns a text with each byte left out, changed, or with another one before it.
func changedTexts(text string) []string {
	all := []string{}
	for at := range len(text) + 1 {
		for _, b := range "0123,;-+ nx\n" {
			all = append(all, text[:at]+string(b)+text[at:])
			if at < len(text) {
				all = append(all, text[:at]+string(b)+text[at+1:])
			}
		}
		if at < len(text) {
			all = append(all, text[:at]+text[at+1:], text[:at])
		}
	}
	return all
}

func TestReadersOfChangedTexts(t *testing.T) {
	succeeded := [3]int{}
	for _, text := range slices.Concat(changedTexts("2,3;0,-1;-1,0;0,1,0,3,1,0,-1,12"), changedTexts("1,1;0;0;none"), changedTexts("3,1;1,2,0;010"), changedTexts("1,2;0,0;1"), changedTexts("2,2;0,0,1,1,1,1,-1,10"), changedTexts("1,1;none")) {
		succeeded[0] += machines.wantAsKnown(t, text)
		succeeded[1] += plains.wantAsKnown(t, text)
		succeeded[2] += grammars.wantAsKnown(t, text)
	}
	for at, count := range succeeded {
		if count < 20 {
			t.Errorf("just %d texts of the kind %d are read", count, at)
		}
	}
}
