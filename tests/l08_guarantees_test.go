package tests

import (
	"fmt"
	"math/rand"
	"strconv"
	"strings"
	"testing"

	"loop.example/g01357/impl"
)

// carried returns the desk after lines and the last output.
func carried(t *testing.T, d impl.Desk, lines ...string) (impl.Desk, string) {
	t.Helper()
	after, outputs, ok := impl.RunDesk(d, strings.Join(lines, "\n")+"\n")
	want(t, "RunDesk succeeds", ok, true)
	all := strings.Split(outputs, "\n")
	want(t, "outputs", len(all), len(lines)+1)
	return after, all[len(all)-2]
}

// answer returns the last output of lines at a desk.
func answer(t *testing.T, d impl.Desk, lines ...string) string {
	t.Helper()
	_, output := carried(t, d, lines...)
	return output
}

// wantAnswer checks the last output of lines at a desk.
func wantAnswer(t *testing.T, d impl.Desk, expected string, lines ...string) {
	t.Helper()
	want(t, fmt.Sprintf("the output of %q at %v", lines, d), answer(t, d, lines...), expected)
}

// eachDesk calls check with random desks all of whose parts have equal letters.
func eachDesk(check func(r *rand.Rand, letters int64, d impl.Desk)) {
	r := rand.New(rand.NewSource(36))
	for range 150 {
		letters := 1 + r.Int63n(3)
		d := impl.Desk{Machine: randomMachine(r, letters, r.Intn(2) == 0), Plain: randomPlain(r, letters), Grammar: randomGrammar(r, letters, 3, 7)}
		d.Grammar.Rules = d.Grammar.Rules[:min(16, len(d.Grammar.Rules))]
		d.Word = append(randomWord(r, letters, 4), r.Int63n(letters))
		check(r, letters, d)
	}
}

// Machines that are built of others weigh as these tell.
func TestMachinesAtADeskWeighAsOthersTell(t *testing.T) {
	eachDesk(func(r *rand.Rand, letters int64, d impl.Desk) {
		cost := answer(t, d, "cost")
		for _, line := range []string{"tidy", "lettered", "trim"} {
			if after, output := carried(t, d, line); output == "ok" {
				wantAnswer(t, after, cost, "cost")
			}
		}
		turned := deskWith(func(other *impl.Desk) { *other = d })
		turned.Word = nil
		for _, letter := range d.Word {
			turned.Word = append([]int64{letter}, turned.Word...)
		}
		wantAnswer(t, turned, cost, "back", "cost")
		wantAnswer(t, d, answer(t, d, "machine"), "back", "back", "machine")
		reads := map[bool]string{true: "yes", false: "never"}[cost != "-1"]
		if after, output := carried(t, d, "make"); output == "ok" {
			wantAnswer(t, after, reads, "reads")
		}
		if best := answer(t, d, "best"); best != "no" {
			word, least, _ := strings.Cut(best, ";")
			wantAnswer(t, d, least, "word "+word, "cost")
			n, _ := strconv.Atoi(least)
			if own, _ := strconv.Atoi(cost); own >= 0 && own < n {
				t.Errorf("the best word costs %d, but a word costs %d", n, own)
			}
		}
		if after, output := carried(t, d, "repeat"); output == "ok" {
			wantAnswer(t, after, "0", "word none", "cost")
			wantAnswer(t, after, fmt.Sprint(knownCost(after.Machine, d.Word)), "cost")
		}
	})
}

// Smallest machines read the same words, and are told apart from others by shortest words.
func TestPlainMachinesAtADesk(t *testing.T) {
	eachDesk(func(r *rand.Rand, letters int64, d impl.Desk) {
		least, _ := carried(t, d, "least")
		wantAnswer(t, least, answer(t, least, "plain"), "least", "plain")
		wantAnswer(t, least, answer(t, d, "plain"), "plain "+answer(t, d, "plain"), "plain")
		for _, line := range []string{"reads", "first", "count 5", "learn"} {
			wantAnswer(t, d, answer(t, least, line), line)
		}
		all := 1
		for long := range 6 {
			line := fmt.Sprint("count ", long)
			read, _ := strconv.Atoi(answer(t, d, line))
			others, _ := strconv.Atoi(answer(t, d, "other", line))
			want(t, fmt.Sprint("all words of letters ", long), read+others, all)
			all *= int(letters)
		}
		if first := answer(t, d, "first"); first != "no" {
			wantAnswer(t, d, "yes", "word "+first, "reads")
			wantAnswer(t, d, "never", "other", "word "+first, "reads")
		}
		other, _ := carried(t, d, "other")
		word, ok := impl.ApartWord(d.Plain, other.Plain)
		wantList(t, "ApartWord of a machine and its other one", word, ok)
	})
}

// Parses cost what their rules cost, and grammars of machines make what these read.
func TestGrammarsAtADesk(t *testing.T) {
	eachDesk(func(r *rand.Rand, letters int64, d impl.Desk) {
		rules, cost, ok := impl.ParseTree(d.Grammar, d.Word)
		if ok {
			want(t, "the costs of the rules", costOfTree(d.Grammar, rules), cost)
			wantAnswer(t, d, fmt.Sprint(cost), "parse")
		} else {
			wantAnswer(t, d, "-1", "parse")
			wantAnswer(t, d, "0", "trees")
		}
		if cheap := answer(t, d, "cheap"); cheap != "no" {
			word, least, _ := strings.Cut(cheap, ";")
			wantAnswer(t, d, least, "word "+word, "parse")
		}
		if after, output := carried(t, d, "rules"); output == "ok" {
			wantAnswer(t, after, map[string]string{"yes": "0", "never": "-1"}[answer(t, d, "reads")], "parse")
		}
	})
}

// Learned machines read what the teacher reads; edits are none more than others; numbers are read back.
func TestWordsAtADesk(t *testing.T) {
	eachDesk(func(r *rand.Rand, letters int64, d impl.Desk) {
		learned, guesses, ok := impl.LearnPlain(d.Plain)
		want(t, "LearnPlain succeeds", ok, true)
		wantAnswer(t, d, fmt.Sprint(guesses), "learn")
		wantAnswer(t, d, answer(t, d, "reads"), "plain "+knownPlainText(learned), "reads")
		a, b := randomText(r, "abc", 4), randomText(r, "abc", 4)
		wantAnswer(t, d, fmt.Sprint(knownEdit(a, b, 1, 1, 1)), "edit "+a+" "+b)
		wantAnswer(t, d, answer(t, d, "edit "+a+" "+b), "edit "+b+" "+a)
		n := 1 + r.Int63n(3999)
		read, ok := impl.ReadRoman(answer(t, d, fmt.Sprint("roman ", n)))
		wantNumberTold(t, "ReadRoman", read, ok, n)
	})
}

// All parts of a desk are read back from their texts at another one.
func TestDesksAreToldByTexts(t *testing.T) {
	eachDesk(func(r *rand.Rand, letters int64, d impl.Desk) {
		lines := []string{}
		for _, name := range []string{"machine", "plain", "grammar", "word"} {
			lines = append(lines, name+" "+answer(t, d, name))
		}
		after, output := carried(t, impl.NewDesk(), lines...)
		want(t, "the last output", output, "ok")
		want(t, "SameDesk of a desk and one with its texts", impl.SameDesk(after, d), true)
		stored, ok := impl.StoreKept(kept("desk", after.Plain))
		want(t, "StoreKept succeeds", ok, true)
		loaded, ok := impl.LoadKept(stored)
		wantPlain(t, "LoadKept", loaded.Plain, ok, d.Plain)
	})
}
