package tests

import (
	"fmt"
	"math/rand"
	"slices"
	"testing"

	"loop.example/g01357/impl"
)

// callsOf returns the results of both functions for a word, and checks that both succeed.
func callsOf(t *testing.T, word, kinds []int64) (partners, depths []int64) {
	t.Helper()
	partners, one := impl.PartnersOf(word, kinds)
	depths, two := impl.DepthsOf(word, kinds)
	want(t, fmt.Sprint("PartnersOf succeeds for ", word, kinds), one, true)
	want(t, fmt.Sprint("DepthsOf succeeds for ", word, kinds), two, true)
	return partners, depths
}

func TestCalls(t *testing.T) {
	for _, c := range []struct {
		word, kinds      string
		partners, depths []int64
	}{
		{"", "012", nil, nil}, {"0", "0", []int64{-1}, []int64{0}}, {"0", "1", []int64{-1}, []int64{1}}, {"0", "2", []int64{-1}, []int64{0}}, {"012", "012", []int64{-1, 2, 1}, []int64{0, 1, 0}},
		{"1022", "012", []int64{2, -1, 0, -1}, []int64{1, 1, 0, 0}}, {"1122", "012", []int64{3, 2, 1, 0}, []int64{1, 2, 1, 0}}, {"1212", "012", []int64{1, 0, 3, 2}, []int64{1, 0, 1, 0}},
		// Returns before all calls, and calls that stay open.
		{"2212", "012", []int64{-1, -1, 3, 2}, []int64{0, 0, 1, 0}}, {"1112", "012", []int64{-1, -1, 3, 2}, []int64{1, 2, 3, 2}}, {"122212", "012", []int64{1, 0, -1, -1, 5, 4}, []int64{1, 0, 0, 0, 1, 0}}, {"11211", "012", []int64{-1, 2, 1, -1, -1}, []int64{1, 2, 1, 2, 3}},
		// Several letters of each kind, in another order: any return ends any call.
		{"0123", "2112", []int64{-1, -1, 3, 2}, []int64{0, 1, 2, 1}}, {"1203", "2112", []int64{3, 2, 1, 0}, []int64{1, 2, 1, 0}}, {"0123", "0000", []int64{-1, -1, -1, -1}, []int64{0, 0, 0, 0}}, {"3210", "1111", []int64{-1, -1, -1, -1}, []int64{1, 2, 3, 4}}, {"3210", "2222", []int64{-1, -1, -1, -1}, []int64{0, 0, 0, 0}},
		{"000000111111", "12", []int64{11, 10, 9, 8, 7, 6, 5, 4, 3, 2, 1, 0}, []int64{1, 2, 3, 4, 5, 6, 5, 4, 3, 2, 1, 0}}, {zeros(12), "1", costs(-1, 12), countedFrom(1, 12)}, {"010010111001", "12", []int64{1, 0, 7, 4, 3, 6, 5, 2, -1, -1, 11, 10}, []int64{1, 0, 1, 2, 1, 2, 1, 0, 0, 1, 2, 1}},
	} {
		what := fmt.Sprint(c.word, " ", c.kinds)
		partners, depths := callsOf(t, spelled(c.word), spelled(c.kinds))
		wantSame(t, "PartnersOf "+what, partners, append([]int64{}, c.partners...))
		wantSame(t, "DepthsOf "+what, depths, append([]int64{}, c.depths...))
	}
}

// knownPartner returns the partner of a return: going back from it, each return before it takes a call more.
func knownPartner(kinds []int64, at int) int {
	more := 0
	for call := at - 1; call >= 0; call-- {
		switch kinds[call] {
		case 2:
			more++
		case 1:
			if more == 0 {
				return call
			}
			more--
		}
	}
	return -1
}

func TestCallsHavePartners(t *testing.T) {
	r := rand.New(rand.NewSource(26))
	for range 2000 {
		kinds := listsOf(3, 1+r.Int63n(4))
		kind := kinds[r.Intn(len(kinds))]
		word := randomWord(r, int64(len(kind)), 12)
		ofWord, known := []int64{}, costs(-1, len(word))
		for at, letter := range word {
			ofWord = append(ofWord, kind[letter])
			if call := knownPartner(ofWord, at); ofWord[at] == 2 && call >= 0 {
				known[at], known[call] = int64(call), int64(at)
			}
		}
		partners, depths := callsOf(t, word, kind)
		wantSame(t, fmt.Sprint("PartnersOf ", word, kind), partners, known)
		for at := range word {
			open := int64(0)
			for call := range at + 1 {
				if ofWord[call] == 1 && (known[call] < 0 || known[call] > int64(at)) {
					open++
				}
			}
			want(t, fmt.Sprint("DepthsOf ", word, kind, at), depths[at], open)
		}
	}
}

func TestCallsThatAreNone(t *testing.T) {
	wantNone := func(word, kinds []int64) {
		t.Helper()
		partners, ok := impl.PartnersOf(word, kinds)
		wantListFailure(t, fmt.Sprint("PartnersOf ", word, kinds), partners, ok)
		depths, ok := impl.DepthsOf(word, kinds)
		wantListFailure(t, fmt.Sprint("DepthsOf ", word, kinds), depths, ok)
	}
	for _, n := range append(others(), 3) {
		for at := range 3 {
			wantNone([]int64{0}, slices.Insert([]int64{0, 1}, at, n))
			wantNone(slices.Insert([]int64{0, 1}, at, n), []int64{0, 1, 2})
		}
		wantNone(nil, []int64{n})
	}
	for _, word := range []string{"", "0"} {
		wantNone(spelled(word), nil)
		wantNone(spelled(word), spelled("01201"))
	}
	wantNone(spelled("1"), spelled("1"))
	wantNone(spelled(zeros(13)), spelled("0"))
}
