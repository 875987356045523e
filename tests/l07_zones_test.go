package tests

import (
	"fmt"
	"math/rand"
	"slices"
	"testing"

	"loop.example/g01357/impl"
)

func TestValidZone(t *testing.T) {
	valid := map[string]impl.Zone{
		"all times of 1 clock": zone(0, 0, no, 0), "4 clocks": wholeZone(4), "4 clocks at 0": zone(make([]int64, 25)...), "the least bounds": zone(0, -1000000, -1000000, 0), "the greatest bounds": zone(0, 0, 1000000, 0),
		"no times": zone(0, -2, 1, 0), "2 clocks": zone(0, -1000000, 0, 1000000, 0, -1000000, no, 1000000, 0),
	}
	wantValid(t, "ValidZone", impl.ValidZone, valid, invalidZones())
	for _, n := range others()[1:] {
		for at := range 4 {
			z := zone(0, 0, 0, 0)
			z.Bounds[at] = n
			want(t, fmt.Sprint("ValidZone of ", z), impl.ValidZone(z), false)
		}
		want(t, fmt.Sprint("ValidZone of so many clocks ", n), impl.ValidZone(impl.Zone{Clocks: n, Bounds: make([]int64, 4)}), false)
	}
	// In each place of 3 clocks, either all bounds are valid, or those from -MaxBound to 0, or 0 alone.
	for at := range 16 {
		for bound, isValid := range map[int64][3]bool{0: {true, true, true}, -1: {true, true, false}, -1000000: {true, true, false}, 1: {true, false, false}, 1000000: {true, false, false}, no: {true, false, false}} {
			z := wholeZone(3)
			z.Bounds[at] = bound
			kind := 0
			if at < 4 {
				kind = 1
			}
			if at%5 == 0 {
				kind = 2
			}
			want(t, fmt.Sprint("ValidZone of ", z), impl.ValidZone(z), isValid[kind])
		}
	}
}

func TestSameZone(t *testing.T) {
	wantSameAlone(t, "SameZone", impl.SameZone, zone(0, -1, 2, 0), invalidZones())
	example := zone(0, -1, 2, 0)
	want(t, "SameZone of equal zones", impl.SameZone(example, zone(0, -1, 2, 0)), true)
	for _, other := range []impl.Zone{zone(0, -2, 2, 0), zone(0, -1, 1, 0), zone(1, -1, 2, 0), zone(0, -1, 2, 1), {Clocks: 2, Bounds: example.Bounds}, {Clocks: 1, Bounds: example.Bounds[:3]}, {Clocks: 1, Bounds: []int64{0, -1, 2, 0, 0}}} {
		want(t, fmt.Sprint("SameZone of the example and ", other), impl.SameZone(example, other), false)
	}
	want(t, "SameZone of nil lists and empty ones", impl.SameZone(impl.Zone{}, impl.Zone{Bounds: []int64{}}), true)
}

func TestExamplesOfZones(t *testing.T) {
	for clocks := range int64(4) {
		for _, time := range []int64{0, 1, 999999, 1000000} {
			holds, ok := impl.HoldsIn(wholeZone(clocks+1), costs(time, int(clocks+1)))
			wantReport(t, fmt.Sprint("HoldsIn all times ", clocks+1, time), holds, ok, true)
		}
	}
}

func TestWholeZone(t *testing.T) {
	for clocks, expected := range map[int64]impl.Zone{
		1: zone(0, 0, no, 0), 2: zone(0, 0, 0, no, 0, no, no, no, 0), 3: zone(0, 0, 0, 0, no, 0, no, no, no, no, 0, no, no, no, no, 0),
		4: zone(0, 0, 0, 0, 0, no, 0, no, no, no, no, no, 0, no, no, no, no, no, 0, no, no, no, no, no, 0),
	} {
		whole, ok := impl.WholeZone(clocks)
		wantZone(t, fmt.Sprint("WholeZone ", clocks), whole, ok, expected)
	}
	for _, clocks := range append(others(), 0, 5) {
		whole, ok := impl.WholeZone(clocks)
		wantNoZone(t, fmt.Sprint("WholeZone ", clocks), whole, ok)
	}
}

// leastZone returns the zone of 4 clocks whose Bounds are all as little as can be.
func leastZone() impl.Zone {
	z := zone(costs(-impl.MaxBound, 25)...)
	for at := 0; at < 25; at += 6 {
		z.Bounds[at] = 0
	}
	return z
}

func TestTightZone(t *testing.T) {
	for _, c := range []struct{ z, tight impl.Zone }{
		{zone(0, 0, no, 0), zone(0, 0, no, 0)}, {zone(0, -2, 5, 0), zone(0, -2, 5, 0)}, {zone(0, -2, 2, 0), zone(0, -2, 2, 0)}, {zone(0, -1000000, 1000000, 0), zone(0, -1000000, 1000000, 0)}, {wholeZone(4), wholeZone(4)},
		// The clock 1 is at most 3, and 2 at most 4 more; so 2 is at most 7.
		{zone(0, 0, 0, 3, 0, no, no, 4, 0), zone(0, 0, 0, 3, 0, 3, 7, 4, 0)},
		// 2 is at least 2, and 1 at least 3 more; so 1 is at least 5, and has no greatest time.
		{zone(0, 0, -2, no, 0, no, no, -3, 0), zone(0, -5, -2, no, 0, no, no, -3, 0)},
		// The sums reach MaxBound and -MaxBound.
		{zone(0, 0, 0, 999999, 0, no, no, 1, 0), zone(0, 0, 0, 999999, 0, 999999, 1000000, 1, 0)}, {zone(0, 0, -999999, no, 0, no, no, -1, 0), zone(0, -1000000, -999999, no, 0, no, no, -1, 0)},
		{zone(0, 0, 0, 0, no, 0, 999999, no, no, no, 0, 1, no, no, no, 0), zone(0, 0, 0, 0, no, 0, 999999, 1000000, no, no, 0, 1, no, no, no, 0)},
		// Each clock is 1 more than the one before it, and the last one is at most 9.
		{zone(0, 0, 0, 0, 0, no, 0, -1, no, no, no, 1, 0, -1, no, no, no, 1, 0, -1, 9, no, no, 1, 0), zone(0, 0, -1, -2, -3, 6, 0, -1, -2, -3, 7, 1, 0, -1, -2, 8, 2, 1, 0, -1, 9, 3, 2, 1, 0)},
		// A bound that is there becomes less by a sum with two others.
		{zone(0, -1, 0, 9, 0, 2, 3, 8, 0), zone(0, -1, 0, 5, 0, 2, 3, 2, 0)},
	} {
		tight, ok := impl.TightZone(c.z)
		wantZone(t, fmt.Sprint("TightZone of ", c.z), tight, ok, c.tight)
	}
	for _, z := range []impl.Zone{
		zone(0, -2, 1, 0), zone(0, 0, -1, 0), zone(0, -1000000, 999999, 0), zone(0, -1000000, -1000000, 0), zone(0, 0, 0, no, 0, -1, no, 0, 0), zone(0, 0, 0, no, 0, 1, no, -2, 0), zone(0, -5, 0, no, 0, 2, 2, no, 0),
		zone(0, 0, 0, 0, no, 0, -1, no, no, no, 0, -1, no, 1, no, 0), leastZone(),
		// There are times, but the sum of two Bounds is none.
		zone(0, 0, 0, 1000000, 0, no, no, 1, 0), zone(0, 0, 0, 1000000, 0, no, no, 1000000, 0), zone(0, 0, -1000000, no, 0, no, no, -1, 0), zone(0, 0, -1000000, no, 0, no, no, -1000000, 0), zone(0, 0, 0, 0, no, 0, 1000000, no, no, no, 0, 1, no, no, no, 0),
		zone(0, 0, 0, 0, no, 0, -1000000, no, no, no, 0, -1, no, no, no, 0),
	} {
		tight, ok := impl.TightZone(z)
		wantNoZone(t, fmt.Sprint("TightZone of ", z), tight, ok)
	}
}

// knownTight returns the zone of the greatest differences of times up to most for which a zone holds, if it holds for
// some; those that are greater than half of most are not bounded.
func knownTight(z impl.Zone, most int64) (impl.Zone, bool) {
	tight := impl.Zone{Clocks: z.Clocks, Bounds: costs(-most, len(z.Bounds))}
	isEmpty := true
	for _, times := range timesUpTo(z.Clocks, most) {
		if !knownHolds(z, times) {
			continue
		}
		isEmpty = false
		all := append([]int64{0}, times...)
		for at := range tight.Bounds {
			tight.Bounds[at] = max(tight.Bounds[at], all[at/len(all)]-all[at%len(all)])
		}
	}
	for at, bound := range tight.Bounds {
		if bound > most/2 {
			tight.Bounds[at] = no
		}
	}
	return tight, !isEmpty
}

// eachZone checks random zones of 1 to 3 clocks, and up to which times each difference that is bounded can be told.
func eachZone(times int, check func(r *rand.Rand, z impl.Zone, most int64)) {
	r := rand.New(rand.NewSource(25))
	for at := range times {
		switch at % 10 {
		case 0:
			check(r, randomZone(r, 3, 2), 14)
		case 1, 2, 3:
			check(r, randomZone(r, 1, 5), 26)
		default:
			check(r, randomZone(r, 2, 5), 26)
		}
	}
}

func TestTightZoneTellsDifferences(t *testing.T) {
	empty, less := 0, 0
	eachZone(1500, func(r *rand.Rand, z impl.Zone, most int64) {
		known, isThere := knownTight(z, most)
		tight, ok := impl.TightZone(z)
		what := fmt.Sprint("TightZone of ", z)
		if !isThere {
			wantNoZone(t, what, tight, ok)
			empty++
			return
		}
		wantZone(t, what, tight, ok, known)
		if !slices.Equal(known.Bounds, z.Bounds) {
			less++
		}
		again, ok := impl.TightZone(tight)
		wantZone(t, what+" once more", again, ok, tight)
	})
	if empty < 100 || less < 300 {
		t.Errorf("%d zones of no times, %d zones that were not tight", empty, less)
	}
}

func TestHoldsIn(t *testing.T) {
	for _, c := range []struct {
		z        impl.Zone
		times    []int64
		expected bool
	}{
		{zone(0, -2, 5, 0), []int64{1}, false}, {zone(0, -2, 5, 0), []int64{2}, true}, {zone(0, -2, 5, 0), []int64{5}, true}, {zone(0, -2, 5, 0), []int64{6}, false}, {zone(0, 0, no, 0), []int64{1000000}, true},
		{zone(0, 0, 999999, 0), []int64{1000000}, false}, {zone(0, 0, 1000000, 0), []int64{1000000}, true}, {zone(0, -1000000, no, 0), []int64{999999}, false}, {zone(0, -1000000, no, 0), []int64{1000000}, true}, {zone(0, -2, 1, 0), []int64{1}, false}, {zone(0, -2, 1, 0), []int64{2}, false},
		// Row by row: 1 is at most 1 more than 2, and 2 at most 3 more than 1.
		{zone(0, 0, 0, no, 0, 1, no, 3, 0), []int64{5, 4}, true}, {zone(0, 0, 0, no, 0, 1, no, 3, 0), []int64{5, 3}, false}, {zone(0, 0, 0, no, 0, 1, no, 3, 0), []int64{5, 8}, true}, {zone(0, 0, 0, no, 0, 1, no, 3, 0), []int64{5, 9}, false},
		{zone(0, 0, 0, no, 0, no, no, -1000000, 0), []int64{1000000, 0}, true}, {zone(0, 0, 0, no, 0, no, no, -1000000, 0), []int64{999999, 0}, false}, {zone(0, 0, 0, no, 0, no, no, no, 0), []int64{0, 1000000}, true},
		{wholeZone(4), []int64{0, 1000000, 0, 1000000}, true}, {zone(make([]int64, 25)...), []int64{0, 0, 0, 0}, true}, {zone(make([]int64, 25)...), []int64{0, 0, 0, 1}, false},
	} {
		holds, ok := impl.HoldsIn(c.z, c.times)
		wantReport(t, fmt.Sprint("HoldsIn ", c.z, c.times), holds, ok, c.expected)
	}
	for _, times := range [][]int64{nil, {}, {0, 0}, {-1}, {1000001}, {others()[1]}, {others()[2]}} {
		holds, ok := impl.HoldsIn(zone(0, 0, no, 0), times)
		wantFailure(t, fmt.Sprint("HoldsIn ", times), holds, ok)
	}
	for _, times := range [][]int64{{0}, {0, 0, 0}, {0, -1}, {0, 1000001}, {1000001, 0}} {
		holds, ok := impl.HoldsIn(wholeZone(2), times)
		wantFailure(t, fmt.Sprint("HoldsIn ", times), holds, ok)
	}
}

func TestHoldsInTellsDifferences(t *testing.T) {
	eachZone(200, func(r *rand.Rand, z impl.Zone, most int64) {
		for _, times := range timesUpTo(z.Clocks, 9) {
			holds, ok := impl.HoldsIn(z, times)
			wantReport(t, fmt.Sprint("HoldsIn ", z, times), holds, ok, knownHolds(z, times))
		}
	})
}

// wantTimes checks for which times up to most a zone holds that a function returned, which failed if there are none, and
// that it is tight.
func wantTimes(t *testing.T, what string, z impl.Zone, ok bool, clocks, most int64, isTime func(times []int64) bool) {
	t.Helper()
	times := timesUpTo(clocks, most)
	if !ok {
		wantNoZone(t, what, z, ok)
		want(t, what+" has times", slices.ContainsFunc(times, isTime), false)
		return
	}
	want(t, what+" has as many clocks", z.Clocks, clocks)
	for _, list := range times {
		if knownHolds(z, list) != isTime(list) {
			t.Errorf("%s: got %v, which holds for %v: %v", what, z, list, !isTime(list))
		}
	}
	tight, ok := impl.TightZone(z)
	wantZone(t, "TightZone of "+what, tight, ok, z)
}

func TestMeetZone(t *testing.T) {
	for _, c := range []struct{ a, b, both impl.Zone }{
		{zone(0, 0, no, 0), zone(0, -2, 5, 0), zone(0, -2, 5, 0)}, {zone(0, -2, no, 0), zone(0, -1, 5, 0), zone(0, -2, 5, 0)}, {zone(0, -5, no, 0), zone(0, 0, 5, 0), zone(0, -5, 5, 0)}, {wholeZone(4), wholeZone(4), wholeZone(4)},
		// Only both together bound the clock 2.
		{zone(0, 0, 0, 3, 0, no, no, no, 0), zone(0, 0, 0, no, 0, no, no, 4, 0), zone(0, 0, 0, 3, 0, 3, 7, 4, 0)},
	} {
		both, ok := impl.MeetZone(c.a, c.b)
		wantZone(t, fmt.Sprint("MeetZone ", c.a, c.b), both, ok, c.both)
		both, ok = impl.MeetZone(c.b, c.a)
		wantZone(t, fmt.Sprint("MeetZone ", c.b, c.a), both, ok, c.both)
	}
	for _, c := range [][2]impl.Zone{
		{zone(0, -6, no, 0), zone(0, 0, 5, 0)}, {zone(0, -2, 1, 0), zone(0, 0, no, 0)}, {zone(0, 0, 0, 1000000, 0, no, no, no, 0), zone(0, 0, 0, no, 0, no, no, 1, 0)}, {wholeZone(1), wholeZone(2)}, {wholeZone(4), wholeZone(3)},
		{zone(0, 0, 0, 1000000, 0, no, no, 1, 0), wholeZone(2)},
	} {
		both, ok := impl.MeetZone(c[0], c[1])
		wantNoZone(t, fmt.Sprint("MeetZone ", c), both, ok)
		both, ok = impl.MeetZone(c[1], c[0])
		wantNoZone(t, fmt.Sprint("MeetZone backward ", c), both, ok)
	}
	// Bounds that are too great for one zone alone can be so for both together.
	loose := zone(0, 0, 0, 1000000, 0, no, no, 1, 0)
	both, ok := impl.MeetZone(loose, zone(0, 0, 0, no, 0, no, 7, no, 0))
	wantZone(t, "MeetZone of a zone that can't be tight alone", both, ok, zone(0, 0, 0, 1000000, 0, 1000000, 7, 1, 0))
}

func TestMeetZoneHoldsWhereBothDo(t *testing.T) {
	met := 0
	eachZone(300, func(r *rand.Rand, a impl.Zone, most int64) {
		b := randomZone(r, a.Clocks, most/6)
		both, ok := impl.MeetZone(a, b)
		wantTimes(t, fmt.Sprint("MeetZone ", a, b), both, ok, a.Clocks, most/2, func(times []int64) bool { return knownHolds(a, times) && knownHolds(b, times) })
		if ok {
			met++
		}
	})
	if met < 50 {
		t.Errorf("just %d zones met", met)
	}
}

func TestLaterZone(t *testing.T) {
	for _, c := range []struct{ z, later impl.Zone }{
		{zone(0, -2, 5, 0), zone(0, -2, no, 0)}, {zone(0, 0, 0, 0), zone(0, 0, no, 0)}, {wholeZone(4), wholeZone(4)}, {zone(make([]int64, 9)...), zone(0, 0, 0, no, 0, 0, no, 0, 0)},
		// The difference of the clocks, which just their greatest times tell, stays.
		{zone(0, 0, 0, 3, 0, no, no, 4, 0), zone(0, 0, 0, no, 0, 3, no, 4, 0)}, {zone(0, -1, -2, 5, 0, no, 7, no, 0), zone(0, -1, -2, no, 0, 3, no, 6, 0)},
		{zone(make([]int64, 25)...), zone(0, 0, 0, 0, 0, no, 0, 0, 0, 0, no, 0, 0, 0, 0, no, 0, 0, 0, 0, no, 0, 0, 0, 0)},
	} {
		later, ok := impl.LaterZone(c.z)
		wantZone(t, fmt.Sprint("LaterZone of ", c.z), later, ok, c.later)
	}
}

func TestLaterZoneHoldsLater(t *testing.T) {
	eachZone(200, func(r *rand.Rand, z impl.Zone, most int64) {
		later, ok := impl.LaterZone(z)
		wantTimes(t, fmt.Sprint("LaterZone of ", z), later, ok, z.Clocks, most/2, func(times []int64) bool {
			isBefore := func(by int64) bool {
				before := slices.Clone(times)
				for i := range before {
					before[i] -= by
				}
				return slices.Min(before) >= 0 && knownHolds(z, before)
			}
			return slices.ContainsFunc(countedFrom(0, most/2), isBefore)
		})
	})
}

func TestResetZone(t *testing.T) {
	for _, c := range []struct {
		z     impl.Zone
		clock int64
		reset impl.Zone
	}{
		{zone(0, -2, 5, 0), 1, zone(0, 0, 0, 0)}, {zone(0, 0, no, 0), 1, zone(0, 0, 0, 0)}, {wholeZone(2), 1, zone(0, 0, 0, 0, 0, 0, no, no, 0)}, {wholeZone(2), 2, zone(0, 0, 0, no, 0, no, 0, 0, 0)},
		{zone(0, -2, -3, 5, 0, no, 7, no, 0), 1, zone(0, 0, -3, 0, 0, -3, 7, 7, 0)}, {zone(0, -2, -3, 5, 0, no, 7, no, 0), 2, zone(0, -2, 0, 5, 0, 5, 0, -2, 0)},
		// The clock 2 is bounded by the clock 1 alone, which loses its own time.
		{zone(0, 0, 0, 3, 0, no, no, 4, 0), 1, zone(0, 0, 0, 0, 0, 0, 7, 7, 0)}, {zone(0, -1, 0, 3, 0, no, no, no, 0), 2, zone(0, -1, 0, 3, 0, 3, 0, -1, 0)},
		{zone(0, -1, -2, -3, -4, 5, 0, no, no, no, 6, no, 0, no, no, 7, no, no, 0, no, 8, no, no, no, 0), 4, zone(0, -1, -2, -3, 0, 5, 0, 3, 2, 5, 6, 5, 0, 3, 6, 7, 6, 5, 0, 7, 0, -1, -2, -3, 0)},
	} {
		reset, ok := impl.ResetZone(c.z, c.clock)
		wantZone(t, fmt.Sprint("ResetZone of ", c.z, c.clock), reset, ok, c.reset)
	}
	for clocks := range int64(4) {
		for _, clock := range append(others(), 0, clocks+2) {
			reset, ok := impl.ResetZone(wholeZone(clocks+1), clock)
			wantNoZone(t, fmt.Sprint("ResetZone of the clock ", clock), reset, ok)
		}
		_, ok := impl.ResetZone(wholeZone(clocks+1), clocks+1)
		want(t, fmt.Sprint("ResetZone of the last clock ", clocks+1), ok, true)
	}
}

func TestResetZoneHoldsWithTheClockAt0(t *testing.T) {
	eachZone(200, func(r *rand.Rand, z impl.Zone, most int64) {
		clock := r.Int63n(z.Clocks)
		reset, ok := impl.ResetZone(z, clock+1)
		wantTimes(t, fmt.Sprint("ResetZone of ", z, clock+1), reset, ok, z.Clocks, most/2, func(times []int64) bool {
			wasAt := func(time int64) bool {
				before := slices.Clone(times)
				before[clock] = time
				return knownHolds(z, before)
			}
			return times[clock] == 0 && slices.ContainsFunc(countedFrom(0, most), wasAt)
		})
	})
}

func TestIsPartZone(t *testing.T) {
	for _, c := range []struct {
		a, b     impl.Zone
		expected bool
	}{
		{zone(0, -2, 5, 0), zone(0, 0, no, 0), true}, {zone(0, 0, no, 0), zone(0, -2, 5, 0), false}, {zone(0, -2, 5, 0), zone(0, -2, 5, 0), true}, {zone(0, -2, 5, 0), zone(0, -3, 5, 0), false}, {zone(0, -2, 5, 0), zone(0, -2, 4, 0), false}, {zone(0, -2, 5, 0), zone(0, -1, 6, 0), true},
		{zone(0, 0, no, 0), zone(0, 0, 1000000, 0), false}, {zone(0, 0, 1000000, 0), zone(0, 0, no, 0), true}, {wholeZone(4), wholeZone(4), true}, {zone(make([]int64, 25)...), wholeZone(4), true},
		// The Bounds of a alone are greater than those of b, but its tight ones are not; those of b need not be tight.
		{zone(0, 0, 0, 3, 0, no, no, 4, 0), zone(0, 0, 0, 3, 0, 3, 7, 4, 0), true}, {zone(0, 0, 0, 3, 0, 3, 7, 4, 0), zone(0, 0, 0, 3, 0, no, no, 4, 0), true}, {zone(0, 0, 0, 3, 0, no, no, 4, 0), zone(0, 0, 0, no, 0, no, 7, no, 0), true}, {zone(0, 0, 0, 3, 0, no, no, 4, 0), zone(0, 0, 0, no, 0, no, 6, no, 0), false},
		// b holds for no times, or its Bounds can't be tight.
		{zone(0, -2, 5, 0), zone(0, -2, 1, 0), false}, {zone(0, 0, no, 0), zone(0, -2, 1, 0), false}, {zone(0, 0, 0, 0), zone(0, -1000000, -1000000, 0), false},
		{zone(make([]int64, 9)...), zone(0, 0, 0, 1000000, 0, no, no, 1, 0), true}, {wholeZone(2), zone(0, 0, 0, 1000000, 0, no, no, 1, 0), false},
	} {
		part, ok := impl.IsPartZone(c.a, c.b)
		wantReport(t, fmt.Sprint("IsPartZone ", c.a, c.b), part, ok, c.expected)
	}
	for _, c := range [][2]impl.Zone{
		{zone(0, -2, 1, 0), zone(0, 0, no, 0)}, {zone(0, -2, 1, 0), zone(0, -2, 1, 0)}, {zone(0, 0, 0, 1000000, 0, no, no, 1, 0), wholeZone(2)}, {wholeZone(1), wholeZone(2)}, {wholeZone(2), wholeZone(1)}, {wholeZone(3), wholeZone(4)},
	} {
		part, ok := impl.IsPartZone(c[0], c[1])
		wantFailure(t, fmt.Sprint("IsPartZone ", c), part, ok)
	}
}

func TestIsPartZoneTriesOutTimes(t *testing.T) {
	parts, others := 0, 0
	eachZone(800, func(r *rand.Rand, a impl.Zone, most int64) {
		b := randomZone(r, a.Clocks, most/6)
		if r.Intn(2) == 0 {
			b = impl.Zone{Clocks: a.Clocks, Bounds: slices.Clone(a.Bounds)}
			if at := r.Intn(len(b.Bounds)); at > int(a.Clocks) && b.Bounds[at] != 0 {
				b.Bounds[at] = no
			}
		}
		part, ok := impl.IsPartZone(a, b)
		what := fmt.Sprint("IsPartZone ", a, b)
		expected, isThere := true, false
		for _, times := range timesUpTo(a.Clocks, most) {
			if knownHolds(a, times) {
				isThere = true
				expected = expected && knownHolds(b, times)
			}
		}
		switch {
		case !isThere:
			wantFailure(t, what, part, ok)
			return
		case expected:
			parts++
		default:
			others++
		}
		wantReport(t, what, part, ok, expected)
	})
	if parts < 100 || others < 100 {
		t.Errorf("%d parts, %d others", parts, others)
	}
}

func TestZonesThatAreNone(t *testing.T) {
	bad := invalidZones()
	bad["no times"] = zone(0, -2, 1, 0)
	for what, z := range bad {
		tight, ok := impl.TightZone(z)
		wantNoZone(t, "TightZone of "+what, tight, ok)
		later, ok := impl.LaterZone(z)
		wantNoZone(t, "LaterZone of "+what, later, ok)
		for _, clock := range []int64{0, 1, z.Clocks} {
			reset, ok := impl.ResetZone(z, clock)
			wantNoZone(t, "ResetZone of "+what, reset, ok)
		}
		whole := wholeZone(max(1, min(z.Clocks, 4)))
		both, ok := impl.MeetZone(whole, z)
		wantNoZone(t, "MeetZone with "+what, both, ok)
		both, ok = impl.MeetZone(z, whole)
		wantNoZone(t, "MeetZone of "+what, both, ok)
		part, ok := impl.IsPartZone(z, whole)
		wantFailure(t, "IsPartZone of "+what, part, ok)
	}
	for what, z := range invalidZones() {
		part, ok := impl.IsPartZone(wholeZone(max(1, min(z.Clocks, 4))), z)
		wantFailure(t, "IsPartZone in "+what, part, ok)
		holds, ok := impl.HoldsIn(z, []int64{0})
		wantFailure(t, "HoldsIn "+what, holds, ok)
		holds, ok = impl.HoldsIn(z, make([]int64, max(0, min(z.Clocks, 5))))
		wantFailure(t, "HoldsIn of as many times "+what, holds, ok)
	}
}
