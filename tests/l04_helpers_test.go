package tests

import (
	"fmt"
	"math"
	"math/rand"
	"strings"
	"testing"

	"loop.example/g01357/impl"
)

// others are numbers far outside of all limits.
func others() []int64 { return []int64{-1, math.MinInt64, math.MaxInt64} }

// longest returns the longest text, of one letter.
func longest() string { return strings.Repeat("a", 48) }

// tooLong returns a text with a byte more than the longest one.
func tooLong() string { return longest() + "a" }

// bytesText is a text of bytes that are no letters, and of no runes.
const bytesText = "\x00\xff\xfe\n \xc3.9A"

// randomText returns a text of at most most bytes of some.
func randomText(r *rand.Rand, some string, most int) string {
	text := []byte{}
	for range r.Intn(most + 1) {
		text = append(text, some[r.Intn(len(some))])
	}
	return string(text)
}

// eachTwoTexts calls check with short random texts, of letters or of any bytes, also with equal beginnings or ends.
func eachTwoTexts(times, most int, check func(r *rand.Rand, a, b string)) {
	r := rand.New(rand.NewSource(41))
	for range times {
		some := []string{"ab", "abc", "\x00\xff\xc3", "a\xc3\xa4"}[r.Intn(4)]
		a, b := randomText(r, some, most), randomText(r, some, most)
		switch shared := randomText(r, some, 2); r.Intn(6) {
		case 0:
			a, b = shared+a, shared+b
		case 1:
			a, b = a+shared, b+shared
		}
		check(r, a[:min(len(a), most)], b[:min(len(b), most)])
	}
}

// textsUpTo returns all texts of at most most of some bytes, the shortest ones first.
func textsUpTo(some string, most int) []string {
	texts := []string{""}
	for at := 0; len(texts[at]) < most; at++ {
		for i := range len(some) {
			texts = append(texts, texts[at]+some[i:i+1])
		}
	}
	return texts
}

// partsOf returns all texts that are left if bytes are taken out of a text.
func partsOf(t string) []string {
	parts := []string{}
	for set := range 1 << len(t) {
		part := ""
		for i := range len(t) {
			if set>>i&1 == 1 {
				part += t[i : i+1]
			}
		}
		parts = append(parts, part)
	}
	return parts
}

// piecesOf returns all pieces of a text, the one of nothing too.
func piecesOf(t string) []string {
	pieces := []string{""}
	for from := range len(t) {
		for to := from + 1; to <= len(t); to++ {
			pieces = append(pieces, t[from:to])
		}
	}
	return pieces
}

// allSteps returns all steps that make b of a.
func allSteps(a, b string) []string {
	if a == "" && b == "" {
		return []string{""}
	}
	all := []string{}
	add := func(step string, rest []string) {
		for _, steps := range rest {
			all = append(all, step+steps)
		}
	}
	if a != "" && b != "" {
		step := "!"
		if a[0] == b[0] {
			step = "="
		}
		add(step, allSteps(a[1:], b[1:]))
	}
	if a != "" {
		add("-", allSteps(a[1:], b))
	}
	if b != "" {
		add("+", allSteps(a, b[1:]))
	}
	return all
}

// knownEdit returns the least cost of all steps that make b of a.
func knownEdit(a, b string, put, out, change int64) int64 {
	least := int64(math.MaxInt64)
	for _, steps := range allSteps(a, b) {
		cost := int64(strings.Count(steps, "+"))*put + int64(strings.Count(steps, "-"))*out + int64(strings.Count(steps, "!"))*change
		least = min(least, cost)
	}
	return least
}

// wantText checks a text that is told.
func wantText(t *testing.T, what, got string, ok bool, expected string) {
	t.Helper()
	if !ok || got != expected {
		t.Errorf("%s: got %q, %v, want %q", what, got, ok, expected)
	}
}

// wantNumberTold checks an integer that is told.
func wantNumberTold(t *testing.T, what string, got int64, ok bool, expected int64) {
	t.Helper()
	if !ok || got != expected {
		t.Errorf("%s: got %d, %v, want %d", what, got, ok, expected)
	}
}

func TestLimitsOfChapter4(t *testing.T) {
	wantSame(t, "limits", []int{impl.MaxText, impl.MaxSamples, impl.MaxList}, []int{48, 24, 32})
}

func TestIsText(t *testing.T) {
	for _, text := range []string{"", "a", bytesText, longest(), strings.Repeat("\xff", 48), strings.Repeat("ä", 24)} {
		want(t, fmt.Sprintf("IsText %q", text), impl.IsText(text), true)
	}
	for _, text := range []string{tooLong(), strings.Repeat("\xff", 49), strings.Repeat("ä", 25), strings.Repeat("a", 100000)} {
		want(t, fmt.Sprintf("IsText of %d bytes", len(text)), impl.IsText(text), false)
	}
}
