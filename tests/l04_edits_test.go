package tests

import (
	"fmt"
	"math/rand"
	"strings"
	"testing"

	"loop.example/g01357/impl"
)

// knownSteps tells steps from the ends on, by the least costs of all steps for each two beginnings.
func knownSteps(a, b string) string {
	least := func(i, j int) int64 { return knownEdit(a[:i], b[:j], 1, 1, 1) }
	steps := ""
	for i, j := len(a), len(b); i+j > 0; {
		differ := int64(1)
		if i > 0 && j > 0 && a[i-1] == b[j-1] {
			differ = 0
		}
		switch {
		case i > 0 && j > 0 && least(i-1, j-1)+differ == least(i, j):
			i, j, steps = i-1, j-1, string("=!"[differ])+steps
		case i > 0 && least(i-1, j)+1 == least(i, j):
			i, steps = i-1, "-"+steps
		default:
			j, steps = j-1, "+"+steps
		}
	}
	return steps
}

// knownSwap returns the least cost of all ways to make b of a, in which two bytes can change places.
func knownSwap(a, b string) int64 {
	if a == "" || b == "" {
		return int64(len(a) + len(b))
	}
	least := 1 + min(knownSwap(a[1:], b), knownSwap(a, b[1:]), knownSwap(a[1:], b[1:]))
	if a[0] == b[0] {
		least = min(least, knownSwap(a[1:], b[1:]))
	}
	if len(a) > 1 && len(b) > 1 && a[:2] == b[1:2]+b[:1] {
		least = min(least, 1+knownSwap(a[2:], b[2:]))
	}
	return least
}

// someWeight returns a random cost, often one at a limit.
func someWeight(r *rand.Rand) int64 { return []int64{0, 1, 2, 3, 999, 1000, r.Int63n(1001)}[r.Intn(7)] }

func TestEditCostIsThatOfTheLeastSteps(t *testing.T) {
	eachTwoTexts(1500, 5, func(r *rand.Rand, a, b string) {
		put, out, change := someWeight(r), someWeight(r), someWeight(r)
		got, ok := impl.EditCost(a, b, put, out, change)
		wantNumberTold(t, fmt.Sprintf("EditCost %q %q %d %d %d", a, b, put, out, change), got, ok, knownEdit(a, b, put, out, change))
	})
}

func TestEditCost(t *testing.T) {
	for _, c := range []struct {
		a, b                       string
		put, out, change, expected int64
	}{
		{"kitten", "sitting", 1, 1, 1, 3}, {"", "", 1000, 1000, 1000, 0}, {bytesText, bytesText, 1, 1, 1, 0},
		{"", "abc", 5, 7, 9, 15}, {"abc", "", 5, 7, 9, 21}, {"abc", "abd", 5, 7, 9, 9}, {"abc", "abd", 4, 4, 9, 8},
		{"abc", "xyz", 0, 0, 0, 0}, {"abc", "xyz", 1000, 0, 1000, 3000}, {"abc", "xyz", 0, 0, 1000, 0}, {"ä", "ö", 9, 9, 1, 1},
		{longest(), strings.Repeat("b", 48), 1000, 1000, 1000, 48000}, {longest(), strings.Repeat("b", 48), 499, 500, 1000, 48 * 999},
		{longest(), "", 0, 1000, 0, 48000}, {"", longest(), 1000, 0, 0, 48000}, {longest(), longest(), 1000, 1000, 1000, 0},
	} {
		got, ok := impl.EditCost(c.a, c.b, c.put, c.out, c.change)
		wantNumberTold(t, fmt.Sprintf("EditCost %q %q %d %d %d", c.a, c.b, c.put, c.out, c.change), got, ok, c.expected)
	}
}

func TestEditCostOfOthersFails(t *testing.T) {
	for _, n := range append(others(), 1001) {
		for i := range 3 {
			costs := []int64{1, 1, 1}
			costs[i] = n
			got, ok := impl.EditCost("a", "a", costs[0], costs[1], costs[2])
			wantFailure(t, fmt.Sprint("EditCost ", costs), got, ok)
		}
	}
	got, ok := impl.EditCost(tooLong(), "a", 1, 1, 1)
	wantFailure(t, "EditCost of 49 bytes", got, ok)
	got, ok = impl.EditCost("a", tooLong(), 1, 1, 1)
	wantFailure(t, "EditCost to 49 bytes", got, ok)
}

func TestStepsAreToldFromTheEndsOn(t *testing.T) {
	eachTwoTexts(400, 5, func(_ *rand.Rand, a, b string) {
		got, ok := impl.EditSteps(a, b)
		wantText(t, fmt.Sprintf("EditSteps %q %q", a, b), got, ok, knownSteps(a, b))
	})
}

// TestLeastEditsAreToldBySteps holds for long texts as for short ones.
func TestLeastEditsAreToldBySteps(t *testing.T) {
	eachTwoTexts(1000, 48, func(_ *rand.Rand, a, b string) {
		steps, ok := impl.EditSteps(a, b)
		want(t, "EditSteps succeeds", ok, true)
		cost, ok := impl.EditCost(a, b, 1, 1, 1)
		wantNumberTold(t, fmt.Sprintf("EditCost %q %q", a, b), cost, ok, int64(len(steps)-strings.Count(steps, "=")))
		made, ok := impl.ApplySteps(a, b, steps)
		wantText(t, fmt.Sprintf("ApplySteps %q %q", a, steps), made, ok, b)
		back, _ := impl.EditCost(b, a, 1, 1, 1)
		want(t, fmt.Sprintf("EditCost back %q %q", b, a), back, cost)
	})
}

func TestEditSteps(t *testing.T) {
	turned, back := strings.Repeat("xy", 24), strings.Repeat("yx", 24)
	for _, c := range [][3]string{
		{"kitten", "sitting", "!===!=+"}, {"", "", ""}, {"abc", "", "---"}, {"", "abc", "+++"}, {"abc", "abc", "==="}, {"abc", "xyz", "!!!"},
		{"a", "aa", "+="}, {"aa", "a", "-="}, {"ab", "ba", "!!"}, {"ab", "b", "-="}, {"ab", "a", "=-"}, {"abx", "xab", "+==-"}, {"ä", "ö", "=!"},
		{longest(), longest(), strings.Repeat("=", 48)}, {longest(), "", strings.Repeat("-", 48)}, {turned, back, "+" + strings.Repeat("=", 47) + "-"},
	} {
		got, ok := impl.EditSteps(c[0], c[1])
		wantText(t, fmt.Sprintf("EditSteps %q %q", c[0], c[1]), got, ok, c[2])
		made, ok := impl.ApplySteps(c[0], c[1], got)
		wantText(t, fmt.Sprintf("ApplySteps %q %q %s", c[0], c[1], got), made, ok, c[1])
	}
	for _, c := range [][2]string{{tooLong(), "a"}, {"a", tooLong()}, {tooLong(), tooLong()}} {
		got, ok := impl.EditSteps(c[0], c[1])
		wantFailure(t, "EditSteps of 49 bytes", got, ok)
	}
}

// canApply reports whether steps use up both texts and keep just equal bytes.
func canApply(a, b, steps string) bool {
	for _, step := range steps {
		if step != '+' {
			if a == "" || step == '=' && (b == "" || a[0] != b[0]) {
				return false
			}
			a = a[1:]
		}
		if step != '-' {
			if b == "" {
				return false
			}
			b = b[1:]
		}
	}
	return a+b == ""
}

func TestApplySteps(t *testing.T) {
	applied := 0
	for _, c := range [][2]string{{"", ""}, {"a", ""}, {"", "a"}, {"a", "a"}, {"a", "b"}, {"ab", "ab"}, {"ab", "ba"}, {"\xff", "\xfe\xff"}, {"aab", "ab"}} {
		for _, steps := range textsUpTo("=!-+", 5) {
			made, ok := impl.ApplySteps(c[0], c[1], steps)
			if what := fmt.Sprintf("ApplySteps %q %q %s", c[0], c[1], steps); canApply(c[0], c[1], steps) {
				wantText(t, what, made, ok, c[1])
				applied++
			} else {
				wantFailure(t, what, made, ok)
			}
		}
	}
	if applied < 50 {
		t.Errorf("just %d steps were applied", applied)
	}
}

func TestStepsThatCannotBeApplied(t *testing.T) {
	for _, c := range [][3]string{
		{"a", "b", "="}, {"a", "b", ""}, {"ab", "ab", "="}, {"ab", "ab", "==="}, {"ab", "ab", "== "}, {"a", "a", "x"}, {"ab", "ba", "x"}, {"a", "a", "=\x00"},
		{"a", "a", "\xff"}, {"a", "a", "＝"}, {"a", "a", "M"}, {"a", "", "--"}, {"", "a", "++"}, {"a", "a", "!-"}, {"", "", "="}, {"", "", strings.Repeat("-", 100000)},
		{tooLong(), tooLong(), strings.Repeat("=", 49)}, {tooLong(), "", strings.Repeat("-", 49)}, {"", tooLong(), strings.Repeat("+", 49)},
	} {
		made, ok := impl.ApplySteps(c[0], c[1], c[2])
		wantFailure(t, fmt.Sprintf("ApplySteps %q %q %.60q", c[0], c[1], c[2]), made, ok)
	}
	made, ok := impl.ApplySteps("ab", "ab", "!!")
	wantText(t, "ApplySteps that change bytes to equal ones", made, ok, "ab")
	made, ok = impl.ApplySteps(longest(), longest(), strings.Repeat("-", 48)+strings.Repeat("+", 48))
	wantText(t, "ApplySteps of 96 steps", made, ok, longest())
}

func TestSwapCostIsTheLeast(t *testing.T) {
	eachTwoTexts(1500, 6, func(_ *rand.Rand, a, b string) {
		got, ok := impl.SwapCost(a, b)
		wantNumberTold(t, fmt.Sprintf("SwapCost %q %q", a, b), got, ok, knownSwap(a, b))
		edits, _ := impl.EditCost(a, b, 1, 1, 1)
		if got > edits || 2*got < edits {
			t.Errorf("SwapCost %q %q is %d, EditCost %d", a, b, got, edits)
		}
	})
}

func TestSwapCost(t *testing.T) {
	for _, c := range []struct {
		a, b     string
		expected int64
	}{
		{"", "", 0}, {"ab", "ba", 1}, {"aa", "aa", 0}, {"abcd", "badc", 2}, {"abc", "bac", 1}, {"abx", "bay", 2}, {"xab", "ba", 2}, {"abc", "cab", 2},
		{"kitten", "iktten", 1}, {"kitten", "sitting", 3}, {"abc", "", 3}, {"", "abc", 3}, {"\x00\xff", "\xff\x00", 1},
		// No byte takes part in two of these: it can't change places and have one put in between.
		{"ca", "abc", 3}, {"ab", "bca", 3}, {"abc", "bca", 2},
		{strings.Repeat("ab", 24), strings.Repeat("ba", 24), 2}, {strings.Repeat("aabb", 12), strings.Repeat("abab", 12), 12}, {longest(), strings.Repeat("b", 48), 48},
	} {
		got, ok := impl.SwapCost(c.a, c.b)
		wantNumberTold(t, fmt.Sprintf("SwapCost %q %q", c.a, c.b), got, ok, c.expected)
	}
	for _, c := range [][2]string{{tooLong(), "a"}, {"a", tooLong()}} {
		got, ok := impl.SwapCost(c[0], c[1])
		wantFailure(t, "SwapCost of 49 bytes", got, ok)
	}
}
