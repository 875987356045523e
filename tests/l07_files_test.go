package tests

import (
	"fmt"
	"math/rand"
	"slices"
	"strings"
	"testing"

	"loop.example/g01357/impl"
)

// kept returns a machine with a name.
func kept(name string, p impl.Plain) impl.Kept { return impl.Kept{Name: name, Plain: p} }

// randomKept returns a random machine with a random name.
func randomKept(r *rand.Rand) impl.Kept {
	return kept(randomText(r, "abyz", 7)+"q", randomPlain(r, 1+r.Int63n(4)))
}

// greatKept has as many bytes as can be: 8 letters, 64 states and 4 letters.
func greatKept() impl.Kept {
	p := cycle(64, 0, 1, 63)
	p.Letters, p.Next = 4, slices.Repeat(countedFrom(0, 63), 4)
	return kept("abcdwxyz", p)
}

// checked returns bytes with the two of their check number behind them.
func checked(s string) string {
	check := 0
	for _, b := range []byte(s) {
		check = (919*check + int(b) + 191) % 65003
	}
	return s + string([]byte{byte(check % 256), byte(check / 256)})
}

// knownBytes returns the bytes of a machine.
func knownBytes(k impl.Kept) string {
	bytes := append([]byte("AUT1"), byte(len(k.Name)))
	bytes = append(append(bytes, k.Name...), byte(k.Plain.States), byte(k.Plain.Letters))
	for _, state := range k.Plain.Next {
		bytes = append(bytes, byte(state))
	}
	for _, end := range k.Plain.Ends {
		bytes = append(bytes, map[bool]byte{true: 1}[end])
	}
	return checked(string(bytes))
}

func validKepts() map[string]impl.Kept {
	return map[string]impl.Kept{
		"a name of 1 letter": kept("a", even()), "a name of 8 letters": greatKept(), "the letter z": kept("z", cycle(1)), "a machine of 4 letters": kept("four", plain(4, make([]int64, 8), 0, 1)),
	}
}

func invalidKepts() map[string]impl.Kept {
	all := map[string]impl.Kept{"nothing": {}, "no name": kept("", even())}
	for _, name := range []string{"abcdefghi", "A", "aB", "`", "{", "a b", "a1", "ä", "a\x00", "abcdefg\x80", strings.Repeat("a", 256), strings.Repeat("a", 257)} {
		all["the name "+name] = kept(name, even())
	}
	for what, p := range invalidPlains() {
		all[what] = kept("a", p)
	}
	return all
}

func TestValidKept(t *testing.T) {
	wantValid(t, "ValidKept", impl.ValidKept, validKepts(), invalidKepts())
}

func TestSameKept(t *testing.T) {
	isSame := func(a, b impl.Kept) bool { return impl.SameKept([]impl.Kept{a}, []impl.Kept{b}) }
	wantSameAlone(t, "SameKept", isSame, kept("ab", even()), invalidKepts())
	a, b := kept("a", even()), kept("b", cycle(2, 1))
	list := []impl.Kept{a, b}
	want(t, "SameKept of equal lists", impl.SameKept(list, []impl.Kept{kept("a", even()), kept("b", cycle(2, 1))}), true)
	for _, other := range [][]impl.Kept{nil, {a}, {b}, {b, a}, {a, b, b}, {a, a}, {b, b}, {a, kept("a", b.Plain)}, {a, kept("b", even())}, {a, kept("", b.Plain)}, {a, kept("b", cycle(2))}, {a, kept("b", cycle(3, 1))}, {a, kept("b", plain(1, []int64{1, 1}, 0, 1))}} {
		want(t, fmt.Sprint("SameKept of the example and ", other), impl.SameKept(list, other), false)
		want(t, fmt.Sprint("SameKept of the example behind ", other), impl.SameKept(other, list), false)
	}
	want(t, "SameKept of nil lists and empty ones", impl.SameKept(nil, []impl.Kept{}), true)
	want(t, "SameKept of machines with nil lists and empty ones", isSame(impl.Kept{}, kept("", impl.Plain{Next: []int64{}, Ends: []bool{}})), true)
}

func TestStoreKept(t *testing.T) {
	for _, c := range []struct {
		k        impl.Kept
		expected string
	}{
		{kept("a", cycle(1, 0)), checked("AUT1\x01a\x01\x01\x00\x01")}, {kept("a", cycle(1)), checked("AUT1\x01a\x01\x01\x00\x00")}, {kept("even", even()), checked("AUT1\x04even\x02\x01\x01\x00\x01\x00")},
		{kept("zyxwvuts", plain(4, []int64{0, 1, 2, 0, 2, 1, 0, 0, 1, 1, 1, 2}, 0, 0, 1)), checked("AUT1\x08zyxwvuts\x03\x04\x00\x01\x02\x00\x02\x01\x00\x00\x01\x01\x01\x02\x00\x00\x01")}, {greatKept(), knownBytes(greatKept())},
	} {
		stored, ok := impl.StoreKept(c.k)
		wantText(t, fmt.Sprint("StoreKept of ", c.k), stored, ok, c.expected)
	}
	// The check number of these bytes is 26453, which is 103 times 256, and 85.
	stored, ok := impl.StoreKept(kept("a", cycle(1, 0)))
	wantText(t, "StoreKept of the least machine", stored, ok, "AUT1\x01a\x01\x01\x00\x01\x55\x67")
	stored, _ = impl.StoreKept(greatKept())
	want(t, "bytes of the greatest machine", len(stored), 4+1+8+2+256+64+2)
	for what, k := range invalidKepts() {
		stored, ok := impl.StoreKept(k)
		wantFailure(t, "StoreKept of "+what, stored, ok)
	}
}

func wantKept(t *testing.T, what string, got impl.Kept, ok bool, expected impl.Kept) {
	t.Helper()
	want(t, what+" succeeds", ok, true)
	wantSame(t, what, got, expected)
}

func wantNoKept(t *testing.T, what string, got impl.Kept, ok bool) {
	t.Helper()
	if ok || got.Name != "" || got.Plain.States != 0 || got.Plain.Letters != 0 || len(got.Plain.Next)+len(got.Plain.Ends) != 0 {
		t.Errorf("%s: got %v, %v, want a failure", what, got, ok)
	}
}

func TestLoadKept(t *testing.T) {
	for what, k := range validKepts() {
		read, ok := impl.LoadKept(knownBytes(k))
		wantKept(t, "LoadKept of "+what, read, ok, k)
	}
	r := rand.New(rand.NewSource(27))
	for range 500 {
		k := randomKept(r)
		stored, ok := impl.StoreKept(k)
		wantText(t, fmt.Sprint("StoreKept of ", k), stored, ok, knownBytes(k))
		read, ok := impl.LoadKept(stored)
		wantKept(t, fmt.Sprintf("LoadKept of %q", stored), read, ok, k)
	}
}

func TestLoadKeptOfOtherBytes(t *testing.T) {
	for _, k := range []impl.Kept{kept("a", cycle(1, 0)), kept("even", even()), kept("zyxwvuts", plain(4, []int64{0, 1, 2, 0, 2, 1, 0, 0, 1, 1, 1, 2}, 0, 0, 1))} {
		stored := knownBytes(k)
		for at := range len(stored) {
			read, ok := impl.LoadKept(stored[:at])
			wantNoKept(t, fmt.Sprintf("LoadKept of %q", stored[:at]), read, ok)
			read, ok = impl.LoadKept(stored[at+1:])
			wantNoKept(t, fmt.Sprintf("LoadKept of %q", stored[at+1:]), read, ok)
			for n := range 256 {
				changed := stored[:at] + string([]byte{byte(n)}) + stored[at+1:]
				if changed == stored {
					continue
				}
				read, ok := impl.LoadKept(changed)
				wantNoKept(t, fmt.Sprintf("LoadKept of %q", changed), read, ok)
			}
		}
		for _, behind := range []string{"x", "\x00", stored} {
			read, ok := impl.LoadKept(stored + behind)
			wantNoKept(t, fmt.Sprintf("LoadKept of %q", stored+behind), read, ok)
		}
	}
	for at := range len(knownBytes(greatKept())) {
		read, ok := impl.LoadKept(knownBytes(greatKept())[:at])
		wantNoKept(t, fmt.Sprint("LoadKept of the greatest machine, cut at ", at), read, ok)
	}
}

func TestLoadKeptOfBytesWithGoodChecks(t *testing.T) {
	for _, s := range []string{
		"", "AUT1", "AUT1\x00\x01\x01\x00\x01", "AUT2\x01a\x01\x01\x00\x01", "aut1\x01a\x01\x01\x00\x01", "\x01a\x01\x01\x00\x01", "AUT1\x01A\x01\x01\x00\x01", "AUT1\x01`\x01\x01\x00\x01", "AUT1\x01{\x01\x01\x00\x01", "AUT1\x02a\x00\x01\x01\x00\x01", "AUT1\x09abcdefghi\x01\x01\x00\x01", "AUT1\x02\xc3\xa4\x01\x01\x00\x01",
		"AUT1\x01a\x00\x01", "AUT1\x01a\x01\x00\x01", "AUT1\x01a\x00\x00", "AUT1\x01a\x01\x05\x00\x00\x00\x00\x00\x01", "AUT1\x01a\x01\x01\x01\x01", "AUT1\x01a\x01\x01\xff\x01", "AUT1\x01a\x01\x01\x00\x02", "AUT1\x01a\x01\x01\x00\xff", "AUT1\x01a\x02\x01\x00\x02\x00\x01",
		"AUT1\x01a\x01\x01\x00\x01\x00", "AUT1\x01a\x01\x01\x00", "AUT1\x01a\x41\x01" + strings.Repeat("\x00", 130), "AUT1\xff" + strings.Repeat("a", 255) + "\x01\x01\x00\x01", "AUT1\x01a\xff\xff" + strings.Repeat("\x00", 255*256),
	} {
		read, ok := impl.LoadKept(checked(s))
		wantNoKept(t, fmt.Sprintf("LoadKept of %.20q with a check number", s), read, ok)
	}
	s := "AUT1\x01a\x01\x01\x00\x01"
	for n := range 1 << 16 {
		bytes := s + string([]byte{byte(n), byte(n >> 8)})
		read, ok := impl.LoadKept(bytes)
		if bytes == checked(s) {
			wantKept(t, fmt.Sprintf("LoadKept of %q", bytes), read, ok, kept("a", cycle(1, 0)))
		} else {
			wantNoKept(t, fmt.Sprintf("LoadKept of %q", bytes), read, ok)
		}
	}
}

// manyKepts returns so many machines, of which all have other bytes.
func manyKepts(count int) []impl.Kept {
	list := []impl.Kept{}
	for at := range int64(count) {
		list = append(list, kept("kept"[at%4:], cycle(at+1, at)))
	}
	return list
}

func TestStoreKepts(t *testing.T) {
	for count := range impl.MaxKept + 3 {
		list, expected := manyKepts(count), ""
		for _, k := range list {
			expected += knownBytes(k)
		}
		stored, ok := impl.StoreKepts(list)
		if count > impl.MaxKept {
			wantFailure(t, fmt.Sprint("StoreKepts of ", count), stored, ok)
		} else {
			wantText(t, fmt.Sprint("StoreKepts of ", count), stored, ok, expected)
		}
	}
	stored, ok := impl.StoreKepts(slices.Repeat([]impl.Kept{greatKept()}, 8))
	wantText(t, "StoreKepts of 8 great machines", stored, ok, strings.Repeat(knownBytes(greatKept()), 8))
	for what, k := range invalidKepts() {
		for at := range 3 {
			stored, ok := impl.StoreKepts(slices.Insert(manyKepts(2), at, k))
			wantFailure(t, "StoreKepts with "+what, stored, ok)
		}
	}
}

// wantRecovered checks what is recovered of bytes.
func wantRecovered(t *testing.T, s string, expected []impl.Kept) {
	t.Helper()
	list, size, ok := impl.RecoverKepts(s)
	what := fmt.Sprintf("RecoverKepts of %.60q", s)
	want(t, what+" succeeds", ok, true)
	want(t, what+" returns the machines", impl.SameKept(list, expected), true)
	known := ""
	for _, k := range expected {
		known += knownBytes(k)
	}
	want(t, what+" returns so many bytes", size, int64(len(known)))
}

func TestRecoverKepts(t *testing.T) {
	for count := range impl.MaxKept + 3 {
		list, all := manyKepts(count), ""
		for _, k := range list {
			all += knownBytes(k)
		}
		for _, behind := range []string{"", "x", "AUT1", "\x00", "AUT1\x01a\x01\x01\x00\x01\x00\x00"} {
			wantRecovered(t, all+behind, list[:min(count, impl.MaxKept)])
			wantRecovered(t, "x"+all, nil)
		}
	}
	for _, s := range []string{"x", "A", "AUT1", "AUT1\xff", strings.Repeat("AUT1", 100), strings.Repeat("\x00", 100), strings.Repeat("\xff", 1000)} {
		wantRecovered(t, s, nil)
	}
	wantRecovered(t, strings.Repeat(knownBytes(greatKept()), 9), slices.Repeat([]impl.Kept{greatKept()}, 8))
	// A machine twice is two machines.
	wantRecovered(t, strings.Repeat(knownBytes(kept("a", even())), 2), slices.Repeat([]impl.Kept{kept("a", even())}, 2))
}

func TestRecoverKeptsOfOtherBytes(t *testing.T) {
	list := []impl.Kept{kept("b", even()), kept("abcdefgh", cycle(3, 1)), kept("c", plain(3, []int64{0, 1, 1, 1, 0, 0}, 1, 1))}
	all, ends := "", []int{}
	for _, k := range list {
		all += knownBytes(k)
		ends = append(ends, len(all))
	}
	for at := range len(all) {
		before := 0
		for before < len(ends) && ends[before] <= at {
			before++
		}
		wantRecovered(t, all[:at], list[:before])
		for _, n := range []byte{1, 2, 128, 255} {
			changed := []byte(all)
			changed[at] ^= n
			wantRecovered(t, string(changed), list[:before])
		}
	}
	wantRecovered(t, all, list)
}

func TestRecoveredKeptsAreStored(t *testing.T) {
	r := rand.New(rand.NewSource(28))
	for range 200 {
		list := []impl.Kept{}
		for range r.Intn(9) {
			list = append(list, randomKept(r))
		}
		all, ok := impl.StoreKepts(list)
		want(t, "StoreKepts succeeds", ok, true)
		wantRecovered(t, all, list)
		cut := all[:r.Intn(len(all)+1)]
		some, size, _ := impl.RecoverKepts(cut)
		stored, _ := impl.StoreKepts(some)
		want(t, "StoreKepts of recovered machines", stored, cut[:size])
	}
}
