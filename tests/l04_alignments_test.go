package tests

import (
	"cmp"
	"fmt"
	"math"
	"math/bits"
	"math/rand"
	"slices"
	"strings"
	"testing"

	"loop.example/g01357/impl"
)

// placesIn returns the places of the binary digits 1 of a set.
func placesIn(set uint) []int {
	places := []int{}
	for i := range bits.Len(set) {
		if set>>i&1 == 1 {
			places = append(places, i)
		}
	}
	return places
}

// aloneCost returns the costs of all runs of bytes of a text that are not in a set of paired ones.
func aloneCost(t string, paired uint, open, more int64) int64 {
	cost, alone := int64(0), false
	for i := range len(t) {
		if paired>>i&1 == 1 {
			alone = false
			continue
		}
		if !alone {
			cost += open
		}
		cost, alone = cost+more, true
	}
	return cost
}

// knownAlign returns the greatest gain of all alignments, each of which pairs some bytes of a with as many of b.
func knownAlign(a, b string, same, differ, open, more int64) int64 {
	greatest := int64(math.MinInt64)
	for first := range uint(1) << len(a) {
		for second := range uint(1) << len(b) {
			if bits.OnesCount(first) != bits.OnesCount(second) {
				continue
			}
			gain := -aloneCost(a, first, open, more) - aloneCost(b, second, open, more)
			others := placesIn(second)
			for k, i := range placesIn(first) {
				if a[i] == b[others[k]] {
					gain += same
				} else {
					gain -= differ
				}
			}
			greatest = max(greatest, gain)
		}
	}
	return greatest
}

// knownLocal returns the greatest gain of all pieces of both.
func knownLocal(a, b string, same, differ, gap int64) int64 {
	greatest := int64(0)
	for _, one := range piecesOf(a) {
		for _, other := range piecesOf(b) {
			greatest = max(greatest, knownAlign(one, other, same, differ, 0, gap))
		}
	}
	return greatest
}

func TestAlignGainIsTheGreatest(t *testing.T) {
	eachTwoTexts(700, 5, func(r *rand.Rand, a, b string) {
		same, differ, open, more := someWeight(r), someWeight(r), someWeight(r), someWeight(r)
		got, ok := impl.AlignGain(a, b, same, differ, open, more)
		wantNumberTold(t, fmt.Sprintf("AlignGain %q %q %d %d %d %d", a, b, same, differ, open, more), got, ok, knownAlign(a, b, same, differ, open, more))
	})
}

func TestAlignGain(t *testing.T) {
	for _, c := range []struct {
		a, b                               string
		same, differ, open, more, expected int64
	}{
		{"abc", "ac", 2, 1, 1, 1, 2}, {"", "", 1000, 1000, 1000, 1000, 0}, {"abc", "", 5, 5, 7, 2, -13}, {"", "abc", 5, 5, 7, 2, -13}, {"abc", "abc", 0, 1000, 0, 0, 0},
		{"a", "b", 1, 3, 1, 1, -3}, {"a", "b", 1, 5, 1, 1, -4}, {"ab", "cd", 2, 1000, 1, 1, -6}, {"ab", "cd", 2, 1000, 0, 0, 0},
		// One run of two costs less than two runs of one.
		{"xaay", "xy", 10, 10, 5, 1, 13}, {"axay", "xy", 10, 10, 5, 1, 8}, {"abab", "bb", 10, 10, 1000, 0, -1000}, {"abab", "bb", 10, 10, 5, 0, 10},
		{longest(), longest(), 1000, 1000, 1000, 1000, 48000}, {longest(), strings.Repeat("b", 48), 1000, 1000, 1000, 1000, -48000}, {longest(), "", 0, 0, 1000, 1000, -49000},
	} {
		got, ok := impl.AlignGain(c.a, c.b, c.same, c.differ, c.open, c.more)
		wantNumberTold(t, fmt.Sprintf("AlignGain %q %q %d %d %d %d", c.a, c.b, c.same, c.differ, c.open, c.more), got, ok, c.expected)
	}
}

func TestLocalGainIsTheGreatest(t *testing.T) {
	eachTwoTexts(300, 4, func(r *rand.Rand, a, b string) {
		same, differ, gap := someWeight(r), someWeight(r), someWeight(r)
		got, ok := impl.LocalGain(a, b, same, differ, gap)
		wantNumberTold(t, fmt.Sprintf("LocalGain %q %q %d %d %d", a, b, same, differ, gap), got, ok, knownLocal(a, b, same, differ, gap))
	})
}

func TestLocalGain(t *testing.T) {
	for _, c := range []struct {
		a, b                        string
		same, differ, gap, expected int64
	}{
		{"xxabyy", "zab", 2, 1, 1, 4}, {"", "", 1000, 0, 0, 0}, {"abc", "", 1000, 0, 0, 0}, {"abc", "xyz", 1000, 0, 0, 0}, {"abc", "xyz", 1000, 1000, 1000, 0},
		{"abc", "abc", 0, 0, 0, 0}, {"xabcy", "abc", 7, 1, 1, 21}, {"abxcd", "abcd", 2, 5, 1, 7}, {"abxcd", "abcd", 2, 5, 5, 4}, {"abxcd", "abycd", 2, 1, 9, 7},
		{longest(), longest(), 1000, 1000, 1000, 48000}, {strings.Repeat("ab", 24), strings.Repeat("ba", 24), 1, 1000, 1000, 47},
	} {
		got, ok := impl.LocalGain(c.a, c.b, c.same, c.differ, c.gap)
		wantNumberTold(t, fmt.Sprintf("LocalGain %q %q %d %d %d", c.a, c.b, c.same, c.differ, c.gap), got, ok, c.expected)
	}
}

func TestGainsOfOthersFail(t *testing.T) {
	for _, n := range append(others(), 1001) {
		for i := range 4 {
			gains := []int64{1, 1, 1, 1}
			gains[i] = n
			got, ok := impl.AlignGain("a", "a", gains[0], gains[1], gains[2], gains[3])
			wantFailure(t, fmt.Sprint("AlignGain ", gains), got, ok)
			if i < 3 {
				got, ok = impl.LocalGain("a", "a", gains[0], gains[1], gains[2])
				wantFailure(t, fmt.Sprint("LocalGain ", gains), got, ok)
			}
		}
	}
	for _, c := range [][2]string{{tooLong(), "a"}, {"a", tooLong()}} {
		got, ok := impl.AlignGain(c[0], c[1], 1, 1, 1, 1)
		wantFailure(t, "AlignGain of 49 bytes", got, ok)
		got, ok = impl.LocalGain(c[0], c[1], 1, 1, 1)
		wantFailure(t, "LocalGain of 49 bytes", got, ok)
		common, ok := impl.CommonText(c[0], c[1])
		wantFailure(t, "CommonText of 49 bytes", common, ok)
		first, second, long, ok := impl.SharedText(c[0], c[1])
		wantFailure(t, "SharedText of 49 bytes", [3]int64{first, second, long}, ok)
	}
}

// commonLength returns how long the longest text is whose bytes are in both in this order.
func commonLength(a, b string) int {
	longest, parts := 0, partsOf(b)
	for _, part := range partsOf(a) {
		if slices.Contains(parts, part) {
			longest = max(longest, len(part))
		}
	}
	return longest
}

// knownCommon tells a common text from the ends on.
func knownCommon(a, b string) string {
	switch {
	case a == "" || b == "":
		return ""
	case a[len(a)-1] == b[len(b)-1]:
		return knownCommon(a[:len(a)-1], b[:len(b)-1]) + a[len(a)-1:]
	case commonLength(a[:len(a)-1], b) == commonLength(a, b):
		return knownCommon(a[:len(a)-1], b)
	}
	return knownCommon(a, b[:len(b)-1])
}

func TestCommonTextIsTheLongest(t *testing.T) {
	eachTwoTexts(700, 6, func(_ *rand.Rand, a, b string) {
		got, ok := impl.CommonText(a, b)
		wantText(t, fmt.Sprintf("CommonText %q %q", a, b), got, ok, knownCommon(a, b))
		want(t, fmt.Sprintf("length of CommonText %q %q", a, b), len(got), commonLength(a, b))
	})
}

func TestCommonText(t *testing.T) {
	for _, c := range [][3]string{
		{"abcb", "bcab", "bcb"}, {"", "", ""}, {"abc", "", ""}, {"", "abc", ""}, {"abc", "xyz", ""}, {"ab", "ba", "a"}, {"ba", "ab", "b"}, {bytesText, bytesText, bytesText},
		{"xaybzc", "abc", "abc"}, {longest(), longest(), longest()}, {strings.Repeat("ab", 24), strings.Repeat("b", 48), strings.Repeat("b", 24)},
	} {
		got, ok := impl.CommonText(c[0], c[1])
		wantText(t, fmt.Sprintf("CommonText %q %q", c[0], c[1]), got, ok, c[2])
	}
}

// knownShared returns the best of all pairs of places.
func knownShared(a, b string) [3]int64 {
	best := [3]int64{}
	for i := range len(a) {
		for k := range len(b) {
			long := 0
			for i+long < len(a) && k+long < len(b) && a[i+long] == b[k+long] {
				long++
			}
			if int64(long) > best[2] {
				best = [3]int64{int64(i), int64(k), int64(long)}
			}
		}
	}
	return best
}

func TestSharedText(t *testing.T) {
	check := func(a, b string, expected [3]int64) {
		t.Helper()
		first, second, long, ok := impl.SharedText(a, b)
		want(t, "SharedText succeeds", ok, true)
		want(t, fmt.Sprintf("SharedText %q %q", a, b), [3]int64{first, second, long}, expected)
	}
	check("xabc", "abd", [3]int64{1, 0, 2})
	check("", "", [3]int64{})
	check("abc", "", [3]int64{})
	check("", "abc", [3]int64{})
	check("abc", "xyz", [3]int64{})
	check("ab", "xbxa", [3]int64{0, 3, 1})
	check("abab", "bab", [3]int64{1, 0, 3})
	check("xabyab", "zabzab", [3]int64{1, 1, 2})
	check("abxbc", "bcab", [3]int64{0, 2, 2})
	check(longest(), longest(), [3]int64{0, 0, 48})
	check(strings.Repeat("b", 47)+"a", longest(), [3]int64{47, 0, 1})
	check("a", strings.Repeat("\xff", 47)+"a", [3]int64{0, 47, 1})
	eachTwoTexts(2000, 12, func(_ *rand.Rand, a, b string) { check(a, b, knownShared(a, b)) })
}

// knownNear returns the indices of texts in the order of their costs.
func knownNear(list []string, t string, most int64) []int64 {
	near := []int64{}
	for cost := int64(0); cost <= min(most, 48); cost++ {
		for i, other := range list {
			if knownSwap(other, t) == cost {
				near = append(near, int64(i))
			}
		}
	}
	return near
}

func TestNearTexts(t *testing.T) {
	near, ok := impl.NearTexts([]string{"abc", "ab", "b"}, "ab", 1)
	wantList(t, "NearTexts of the stage test", near, ok, 1, 0, 2)
	near, ok = impl.NearTexts(nil, "", 0)
	wantList(t, "NearTexts of no texts", near, ok)
	near, ok = impl.NearTexts([]string{"b", "ba", "", "ab", "ba", "ab", "abcd"}, "ab", 0)
	wantList(t, "NearTexts of equal texts", near, ok, 3, 5)
	near, ok = impl.NearTexts([]string{"b", "ba", "", "ab", "ba", "ab", "abcd"}, "ab", 1000)
	wantList(t, "NearTexts of all texts", near, ok, 3, 5, 0, 1, 4, 2, 6)
	r := rand.New(rand.NewSource(45))
	for range 200 {
		list := make([]string, r.Intn(33))
		for i := range list {
			list[i] = randomText(r, "ab\xff", 5)
		}
		text, most := randomText(r, "ab\xff", 5), r.Int63n(6)
		near, ok := impl.NearTexts(list, text, most)
		wantList(t, fmt.Sprintf("NearTexts %q %q %d", list, text, most), near, ok, knownNear(list, text, most)...)
		less := func(i, k int64) int {
			return cmp.Or(cmp.Compare(knownSwap(list[i], text), knownSwap(list[k], text)), cmp.Compare(i, k))
		}
		want(t, "NearTexts in order", slices.IsSortedFunc(near, less), true)
	}
}

func TestNearShared(t *testing.T) {
	list := slices.Repeat([]string{"abc", "ab", "", bytesText, "ba", "aab", longest(), "b"}, 4)
	expected := []int64{}
	for _, text := range list {
		cost, _ := impl.SwapCost(text, "ab")
		expected = append(expected, cost)
	}
	for workers := int64(1); workers <= 8; workers++ {
		for count := range len(list) + 1 {
			got, ok := impl.NearShared(list[:count], "ab", workers)
			wantList(t, fmt.Sprint("NearShared by ", workers), got, ok, expected[:count]...)
		}
	}
}

func TestNearTextsOfOthersFail(t *testing.T) {
	fails := func(what string, list []string, text string, most, workers int64) {
		t.Helper()
		near, ok := impl.NearTexts(list, text, most)
		wantListFailure(t, "NearTexts with "+what, near, ok)
		near, ok = impl.NearShared(list, text, workers)
		wantListFailure(t, "NearShared with "+what, near, ok)
	}
	fails("33 texts", make([]string, 33), "", 1, 1)
	fails("a text of 49 bytes", []string{"a", tooLong()}, "", 1, 1)
	fails("49 bytes", nil, tooLong(), 1, 1)
	fails("-1", nil, "", -1, -1)
	fails("1001 or 9", nil, "", 1001, 9)
	for _, n := range others() {
		fails(fmt.Sprint(n), []string{"a"}, "a", n, n)
	}
	got, ok := impl.NearShared([]string{"a"}, "a", 0)
	wantListFailure(t, "NearShared by no workers", got, ok)
}
