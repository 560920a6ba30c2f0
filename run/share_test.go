package run

import (
	"slices"
	"testing"

	"custodian/api"
)

// roomy answers list with so much room behind it, in which junk lies.
func roomy[T any](list []T, room int, junk T) []T {
	made := append(make([]T, 0, len(list)+room), list...)
	fill(made[len(list):], junk)
	return made
}

// fill makes all of a list v, the room behind it too.
func fill[T any](list []T, v T) {
	for i := range list[:cap(list)] {
		list[:cap(list)][i] = v
	}
}

// spoil writes over all that the lists of m have, the room behind them too.
func spoil(m api.Machine, n int) {
	fill(m.Mem, aNumber(n))
	fill(m.Stack, api.Frame{Data: aNumber(n)})
	fill(m.Out, n)
}

// What lies in the room behind the lists that are handed in.
const (
	junkCell  = 31
	junkFrame = 32
	junkTold  = 33
)

// withRoom answers a copy of m with room behind each list.
func withRoom(m api.Machine, room int) api.Machine {
	m.Mem = roomy(m.Mem, room, aNumber(junkCell))
	m.Stack = roomy(m.Stack, room, api.Frame{Data: aNumber(junkFrame)})
	m.Out = roomy(m.Out, room, junkTold)
	return m
}

// runners has machines that end in each way: behind many steps, behind some, and behind none.
func runners() []api.Machine {
	l := goers()
	for _, c := range endings() {
		l = append(l, c.m)
	}
	return l
}

func TestNothingIsShared(t *testing.T) {
	for _, m := range runners() {
		for _, room := range []int{0, 1, 2, 1000} {
			for _, fuel := range []int{0, 1, 2, 5, 30} {
				checkShares(t, withRoom(m, room), fuel)
			}
		}
	}
}

// checkShares writes over all of an answer, then over all that was handed in, and looks at the other ones.
// It leaves m spoilt.
func checkShares(t *testing.T, m api.Machine, fuel int) {
	t.Helper()
	was := whole(m)
	got, _, _ := Run(m, fuel)
	again, _, _ := Run(m, fuel)
	places, _ := Places(m, fuel)
	more, _ := Places(m, fuel)
	if !same(whole(m), was) {
		t.Fatalf("fuel %d: what was handed in has changed", fuel)
	}
	want, wantPlaces := twin(again), slices.Clone(more)
	spoil(got, -5)
	fill(places, -5)
	if !same(whole(m), was) {
		t.Fatalf("fuel %d: what is done to the answer is done to what was handed in", fuel)
	}
	if !same(again, want) || !slices.Equal(more, wantPlaces) {
		t.Fatalf("fuel %d: two answers share memory", fuel)
	}
	spoil(m, -6)
	if !same(again, want) || !slices.Equal(more, wantPlaces) {
		t.Fatalf("fuel %d: what is done to what was handed in is done to the answer", fuel)
	}
	last, _, _ := Run(again, fuel)
	want = twin(last)
	spoil(again, -7)
	if !same(last, want) {
		t.Fatalf("fuel %d: a run shares memory with the one that it goes on from", fuel)
	}
}

// Lists that have nothing in them, but room, are no way round: what is put behind one later is in the other one not.
func TestEmptyListsAreNotShared(t *testing.T) {
	for _, fuel := range []int{0, 1, 2} {
		m := withRoom(api.Machine{}, 5)
		got, _, _ := Run(m, fuel)
		_ = append(got.Mem, aNumber(1))
		_ = append(got.Stack, api.Frame{Data: aNumber(1)})
		_ = append(got.Out, 1)
		if !same(whole(m), whole(withRoom(api.Machine{}, 5))) {
			t.Errorf("fuel %d: what was handed in has changed", fuel)
		}
	}
}

// No answer keeps in the room behind its lists what was handed in behind those.
func TestTheRoomBehindIsNotTold(t *testing.T) {
	for _, m := range runners() {
		for _, fuel := range []int{0, 1, 2, 5, 30} {
			got, _, _ := Run(withRoom(m, 1000), fuel)
			if slices.Contains(got.Mem[:cap(got.Mem)], aNumber(junkCell)) ||
				slices.Contains(got.Stack[:cap(got.Stack)], api.Frame{Data: aNumber(junkFrame)}) || slices.Contains(got.Out[:cap(got.Out)], junkTold) {
				t.Errorf("fuel %d: what lay behind a list was told", fuel)
			}
		}
	}
}
