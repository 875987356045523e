package tests

import (
	"fmt"
	"math/rand"
	"strings"
	"testing"

	"loop.example/g01357/impl"
)

// knownJournal returns the journal of lines.
func knownJournal(lines ...string) string {
	journal, check := "", 0
	for _, line := range lines {
		for _, b := range []byte(line) {
			check = (919*check + int(b) + 191) % 65003
		}
		journal += fmt.Sprintf("%d %s\n", check, line)
	}
	return journal
}

// knownRecovered returns the greatest number of lines whose journal a text begins with: all beginnings of the text that end
// with a newline are tried.
func knownRecovered(text string) ([]string, int64) {
	lines := []string{}
	best, size := []string{}, int64(0)
	for _, piece := range strings.SplitAfter(text, "\n") {
		if at := strings.Index(piece, " "); at >= 0 {
			piece = piece[at+1:]
		}
		lines = append(lines, strings.TrimSuffix(piece, "\n"))
		if journal := knownJournal(lines...); strings.HasPrefix(text, journal) {
			best, size = append([]string{}, lines...), int64(len(journal))
		}
	}
	return best, size
}

// linesWith returns lines whose journal has so many bytes.
func linesWith(bytes int) []string {
	lines := []string{"cost", "", "word none", "best"}
	rest := bytes - len(knownJournal(lines...))
	// A check number has one to five digits, which not all lines of a length allow.
	for fill := rest - 7; fill <= rest-3; fill++ {
		for _, letter := range []string{"x", "y", "z"} {
			all := append(lines[:len(lines):len(lines)], strings.Repeat(letter, fill))
			if len(knownJournal(all...)) == bytes {
				return all
			}
		}
	}
	return nil
}

func TestJournalOf(t *testing.T) {
	for _, lines := range [][]string{
		nil, {}, {""}, {"", ""}, {"x"}, {"x", ""}, {"", "x"}, {" "}, {"  x "}, {"cost", "cost"}, {"cost", "reads", "best"}, {"what", "word 9", "Cost"}, {"0 cost"}, {"\r", "\x00", "\xff\xfe", "\t"}, {strings.Repeat("x", 15000)},
	} {
		journal, ok := impl.JournalOf(lines)
		wantText(t, fmt.Sprintf("JournalOf %.60q", lines), journal, ok, knownJournal(lines...))
		recovered, size, ok := impl.RecoverJournal(journal)
		want(t, "RecoverJournal succeeds", ok, true)
		wantSame(t, fmt.Sprintf("RecoverJournal of the journal of %.60q", lines), fmt.Sprintf("%q", recovered), fmt.Sprintf("%q", append([]string{}, lines...)))
		want(t, "the length of a journal", size, int64(len(journal)))
	}
	for _, lines := range [][]string{{"\n"}, {"cost\n"}, {"\ncost"}, {"cost", "a\nb"}, {"a\nb", "cost"}, {"cost", "reads", "\n"}, {"cost\n0 reads"}} {
		journal, ok := impl.JournalOf(lines)
		wantFailure(t, fmt.Sprintf("JournalOf %q", lines), journal, ok)
	}
}

func TestJournalsHaveKnownChecks(t *testing.T) {
	// Each byte: 919 times the number, plus the byte, plus 191. The number of a is 97 + 191, that of b behind it 919 times
	// 288, plus 98 + 191, less 4 times 65003.
	for _, c := range []struct {
		lines    []string
		expected string
	}{
		{[]string{"cost", "word"}, "21259 cost\n2270 word\n"}, {[]string{"a"}, "288 a\n"}, {[]string{"ab"}, "4949 ab\n"}, {[]string{"a", "b"}, "288 a\n4949 b\n"}, {[]string{"", "a", "", "b", ""}, "0 \n288 a\n288 \n4949 b\n4949 \n"},
	} {
		journal, ok := impl.JournalOf(c.lines)
		wantText(t, fmt.Sprintf("JournalOf %q", c.lines), journal, ok, c.expected)
	}
}

func TestJournalOfManyBytes(t *testing.T) {
	for bytes := 15997; bytes <= 16003; bytes++ {
		lines := linesWith(bytes)
		if lines == nil {
			t.Fatalf("no lines have a journal of bytes %d", bytes)
		}
		journal, ok := impl.JournalOf(lines)
		if bytes > 16000 {
			wantFailure(t, fmt.Sprint("JournalOf bytes ", bytes), journal, ok)
		} else {
			wantText(t, fmt.Sprint("JournalOf bytes ", bytes), journal, ok, knownJournal(lines...))
		}
	}
	// Empty lines at the beginning have three bytes each.
	journal, ok := impl.JournalOf(make([]string, 5333))
	wantText(t, "JournalOf of empty lines", journal, ok, strings.Repeat("0 \n", 5333))
	journal, ok = impl.JournalOf(make([]string, 5334))
	wantFailure(t, "JournalOf of too many empty lines", journal, ok)
	for _, lines := range [][]string{{strings.Repeat("x", 16000)}, {strings.Repeat("x", 1000000)}, make([]string, 1000000), append(linesWith(16000), "")} {
		journal, ok := impl.JournalOf(lines)
		wantFailure(t, "JournalOf of too many bytes", journal, ok)
	}
}

// wantJournalRecovered checks what is recovered of a text, and that its lines are run at a desk.
func wantJournalRecovered(t *testing.T, text string, expected []string) {
	t.Helper()
	what := fmt.Sprintf("RecoverJournal %.60q", text)
	lines, size, ok := impl.RecoverJournal(text)
	want(t, what+" succeeds", ok, true)
	wantSame(t, what, fmt.Sprintf("%q", lines), fmt.Sprintf("%q", append([]string{}, expected...)))
	want(t, "the length of "+what, size, int64(len(knownJournal(expected...))))
	d := newDesk()
	for _, line := range expected {
		d, _ = knownLine(d, line)
	}
	after, count, ok := impl.RunJournal(newDesk(), text)
	wantDesk(t, "RunJournal of "+what, after, ok, d)
	want(t, "the lines of RunJournal of "+what, count, int64(len(expected)))
}

// shortJournal are lines of many kinds.
func shortJournal() []string {
	return []string{"cost", "word none", "", "what", "word 9", "other", " edit a  b"}
}

func TestRecoverJournalOfCutTexts(t *testing.T) {
	lines := shortJournal()
	journal := knownJournal(lines...)
	for at := range len(journal) + 1 {
		whole := strings.Count(journal[:at], "\n")
		wantJournalRecovered(t, journal[:at], lines[:whole])
		wantJournalRecovered(t, journal[:at]+"x", lines[:whole])
		if at > 0 {
			wantJournalRecovered(t, journal[at:], nil)
		}
	}
}

func TestRecoverJournalOfChangedTexts(t *testing.T) {
	lines := shortJournal()
	journal := knownJournal(lines...)
	for at := range len(journal) {
		whole := strings.Count(journal[:at], "\n")
		for b := range 256 {
			changed := journal[:at] + string([]byte{byte(b)}) + journal[at+1:]
			if changed == journal {
				continue
			}
			known, size := knownRecovered(changed)
			wantJournalRecovered(t, changed, known)
			want(t, "the length of what is known", size, int64(len(knownJournal(known...))))
			want(t, fmt.Sprintf("the lines of %q", changed), len(known), whole)
		}
		for _, b := range "0 \nx" {
			put := journal[:at] + string(b) + journal[at:]
			known, _ := knownRecovered(put)
			wantJournalRecovered(t, put, known)
		}
		known, _ := knownRecovered(journal[:at] + journal[at+1:])
		wantJournalRecovered(t, journal[:at]+journal[at+1:], known)
	}
}

func TestRecoverJournalOfOtherTexts(t *testing.T) {
	for _, text := range []string{
		"", "\n", " ", " \n", "0", "0 ", "0\n", "00 \n", "-0 \n", "+0 \n", " 0 \n", "0  \n", "x \n", "1 \n", "65003 \n", "\n0 \n", "a\n", "288a\n", "288 a", "0288 a\n", "+288 a\n", "00288 a\n", "288  a\n", "288 a \n", "288 A\n", "288\ta\n", "120 a\n", "65291 a\n", "-64715 a\n", "288.0 a\n", "288 a\r\n", strings.Repeat("x", 16000), strings.Repeat("\n", 16000), strings.Repeat(" ", 16000),
	} {
		wantJournalRecovered(t, text, nil)
	}
	wantJournalRecovered(t, "0 \n", []string{""})
	wantJournalRecovered(t, "288 a\n", []string{"a"})
	wantJournalRecovered(t, "288 a\n288 \n", []string{"a", ""})
	// The check number of a line goes on from that of the line before.
	wantJournalRecovered(t, "288 a\n288 a\n", []string{"a"})
	wantJournalRecovered(t, "288 a\n04949 b\n", []string{"a"})
	wantJournalRecovered(t, "288 a\n4949 b\n4949 \n0 \n", []string{"a", "b", ""})
	wantJournalRecovered(t, "288 a\n\n288 \n", []string{"a"})
	wantJournalRecovered(t, "288 a\n 288 \n", []string{"a"})
}

func TestRecoverJournalOfManyBytes(t *testing.T) {
	for bytes := 15997; bytes <= 16003; bytes++ {
		lines := linesWith(bytes)
		journal := knownJournal(lines...)
		if bytes <= 16000 {
			wantJournalRecovered(t, journal, lines)
			wantJournalRecovered(t, journal+strings.Repeat("x", 16000-bytes), lines)
			continue
		}
		wantNoJournal(t, journal)
		wantJournalRecovered(t, journal[:16000], lines[:len(lines)-1])
	}
	wantJournalRecovered(t, strings.Repeat("0 \n", 5333)+"0", make([]string, 5333))
	for _, text := range []string{strings.Repeat("0 \n", 5333) + "0 ", strings.Repeat("x", 16001), strings.Repeat("\n", 16001), knownJournal("cost") + strings.Repeat("x", 16000), strings.Repeat("0 \n", 100000)} {
		wantNoJournal(t, text)
	}
}

// wantNoJournal checks that nothing is recovered of a text that is too long, and nothing carried out.
func wantNoJournal(t *testing.T, text string) {
	t.Helper()
	what := fmt.Sprint("a text of bytes ", len(text))
	lines, size, ok := impl.RecoverJournal(text)
	wantListFailure(t, "RecoverJournal of "+what, lines, ok)
	want(t, "the length of RecoverJournal of "+what, size, 0)
	after, count, ok := impl.RunJournal(newDesk(), text)
	wantNoDesk(t, "RunJournal of "+what, after, ok)
	want(t, "the lines of RunJournal of "+what, count, 0)
}

func TestRunJournal(t *testing.T) {
	r := rand.New(rand.NewSource(34))
	for range 200 {
		first, lines := randomDesk(r), []string{}
		for range r.Intn(12) {
			lines = append(lines, someLine(r))
		}
		journal, ok := impl.JournalOf(lines)
		wantText(t, fmt.Sprintf("JournalOf %q", lines), journal, ok, knownJournal(lines...))
		journal = journal[:len(journal)-r.Intn(2)*r.Intn(len(journal)+1)]
		whole := lines[:strings.Count(journal, "\n")]
		after, count, ok := impl.RunJournal(first, journal)
		script := strings.Join(append(whole[:len(whole):len(whole)], ""), "\n")
		expected, _, _ := impl.RunDesk(first, script)
		wantDesk(t, fmt.Sprintf("RunJournal %q", journal), after, ok, expected)
		want(t, fmt.Sprintf("the lines of RunJournal %q", journal), count, int64(len(whole)))
	}
	// Lines that are answered with no or what count, too.
	after, count, ok := impl.RunJournal(newDesk(), knownJournal("word 9", "x", "roman 0", "word none", "word 9"))
	wantDesk(t, "RunJournal of lines that are refused", after, ok, deskWith(func(d *impl.Desk) { d.Word = nil }))
	want(t, "the lines that are refused", count, 5)
}

// A journal of what was carried out at a new desk brings this back.
func TestJournalsBringDesksBack(t *testing.T) {
	r := rand.New(rand.NewSource(35))
	for range 100 {
		d, lines := impl.NewDesk(), []string{}
		for range r.Intn(30) {
			lines = append(lines, someLine(r))
			d, _, _ = impl.DeskCommand(d, lines[len(lines)-1])
		}
		journal, _ := impl.JournalOf(lines)
		after, count, ok := impl.RunJournal(impl.NewDesk(), journal)
		wantDesk(t, fmt.Sprintf("RunJournal of the journal of %q", lines), after, ok, d)
		want(t, "the lines of a journal", count, int64(len(lines)))
		want(t, "SameDesk of the desk that is brought back", impl.SameDesk(after, d), true)
	}
}
