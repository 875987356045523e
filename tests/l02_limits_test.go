package tests

import (
	"testing"

	"loop.example/g01357/impl"
)

// loose returns a machine of some states that are starts and ends at no cost, with so many equal arcs.
func loose(states, arcs int) impl.Machine {
	m := machine(1, costs(0, states), costs(0, states))
	for range arcs {
		m.Arcs = append(m.Arcs, impl.Arc{})
	}
	return m
}

// costly returns a machine of one state with some costs and an arc.
func costly(start, end, cost int64) impl.Machine {
	return machine(1, []int64{start}, []int64{end}, [4]int64{0, 0, 0, cost})
}

func wantSuccess(t *testing.T, what string, got impl.Machine, ok bool) {
	t.Helper()
	if !ok || !impl.ValidMachine(got) {
		t.Errorf("%s: got %v, %v", what, got, ok)
	}
}

func TestEitherOfAtLimits(t *testing.T) {
	got, ok := impl.EitherOf(loose(8, 64), loose(8, 64))
	wantSuccess(t, "EitherOf with 16 states and 128 arcs", got, ok)
	got, ok = impl.EitherOf(loose(8, 0), loose(9, 0))
	wantNoMachine(t, "EitherOf with 17 states", got, ok)
	got, ok = impl.EitherOf(loose(1, 64), loose(1, 65))
	wantNoMachine(t, "EitherOf with 129 arcs", got, ok)
}

func TestJoinedOfAtLimits(t *testing.T) {
	got, ok := impl.JoinedOf(loose(8, 32), loose(8, 32))
	wantSuccess(t, "JoinedOf with 16 states and 128 arcs", got, ok)
	got, ok = impl.JoinedOf(loose(8, 32), loose(8, 33))
	wantNoMachine(t, "JoinedOf with 129 arcs", got, ok)
	got, ok = impl.JoinedOf(loose(8, 0), loose(9, 0))
	wantNoMachine(t, "JoinedOf with 17 states", got, ok)
	got, ok = impl.JoinedOf(costly(1000, 400, 1000), costly(600, 1000, 1000))
	wantSuccess(t, "JoinedOf with an arc of 1000", got, ok)
	got, ok = impl.JoinedOf(costly(0, 400, 0), costly(601, 0, 0))
	wantNoMachine(t, "JoinedOf with an arc of 1001", got, ok)
	got, ok = impl.JoinedOf(costly(0, -1, 0), costly(1000, 0, 0))
	wantMachine(t, "JoinedOf with no end", got, ok, machine(1, []int64{0, -1}, []int64{-1, 0}, [4]int64{}, [4]int64{1, 1, 0, 0}))
}

func TestRepeatOfAtLimits(t *testing.T) {
	got, ok := impl.RepeatOf(loose(15, 98))
	wantSuccess(t, "RepeatOf with 16 states and 128 arcs", got, ok)
	got, ok = impl.RepeatOf(loose(15, 99))
	wantNoMachine(t, "RepeatOf with 129 arcs", got, ok)
	got, ok = impl.RepeatOf(loose(16, 0))
	wantNoMachine(t, "RepeatOf with 17 states", got, ok)
	got, ok = impl.RepeatOf(costly(1000, 1000, 1000))
	wantSuccess(t, "RepeatOf with the greatest costs", got, ok)
	got, ok = impl.RepeatOf(machine(1, []int64{-1}, []int64{-1}))
	wantMachine(t, "RepeatOf with no way", got, ok, machine(1, []int64{0, -1}, []int64{0, -1}))
	wantCost(t, "no words", got, nil, 0)
	wantCost(t, "no words", got, []int64{0}, -1)
}

func TestMeetOfAtLimits(t *testing.T) {
	got, ok := impl.MeetOf(loose(4, 16), loose(4, 8))
	wantSuccess(t, "MeetOf with 16 states and 128 arcs", got, ok)
	got, ok = impl.MeetOf(loose(1, 43), loose(1, 3))
	wantNoMachine(t, "MeetOf with 129 arcs", got, ok)
	got, ok = impl.MeetOf(loose(1, 128), loose(1, 128))
	wantNoMachine(t, "MeetOf with 16384 arcs", got, ok)
	got, ok = impl.MeetOf(loose(16, 0), loose(1, 0))
	wantSuccess(t, "MeetOf with 16 states", got, ok)
	got, ok = impl.MeetOf(loose(17, 0), loose(1, 0))
	wantNoMachine(t, "MeetOf with 17 states", got, ok)
	got, ok = impl.MeetOf(loose(6, 0), loose(3, 0))
	wantNoMachine(t, "MeetOf with 18 states", got, ok)
	got, ok = impl.MeetOf(costly(300, 500, 0), costly(700, 500, 1000))
	wantMachine(t, "MeetOf with costs of 1000", got, ok, costly(1000, 1000, 1000))
	for _, part := range []impl.Machine{costly(301, 0, 0), costly(0, 501, 0), costly(0, 0, 401)} {
		got, ok = impl.MeetOf(part, costly(700, 500, 600))
		wantNoMachine(t, "MeetOf with a cost of 1001", got, ok)
	}
	got, ok = impl.MeetOf(costly(-1, -1, 0), costly(1000, 1000, 0))
	wantMachine(t, "MeetOf with no way", got, ok, costly(-1, -1, 0))
}

func TestMeetOfWithEmptyArcsFails(t *testing.T) {
	empty := machine(1, []int64{0}, []int64{0}, [4]int64{0, 0, -1, 0})
	for _, other := range []impl.Machine{empty, costly(0, 0, 0), machine(1, []int64{0}, []int64{0})} {
		got, ok := impl.MeetOf(empty, other)
		wantNoMachine(t, "MeetOf with empty arcs in a", got, ok)
		got, ok = impl.MeetOf(other, empty)
		wantNoMachine(t, "MeetOf with empty arcs in b", got, ok)
	}
}
