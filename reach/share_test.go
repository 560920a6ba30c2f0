package reach

import (
	"slices"
	"testing"

	"custodian/api"
)

// roomy answers list with so much room behind it, in which junk lies.
func roomy[T any](list []T, room int, junk T) []T {
	made := append(make([]T, 0, len(list)+room), list...)
	fill(made[len(list):], junk)
	return made
}

// fill makes all of a list v, the room behind it too.
func fill[T any](list []T, v T) {
	for i := range list[:cap(list)] {
		list[:cap(list)][i] = v
	}
}

// What lies in the room behind the lists that are handed in: it would be wrong if it were part of them.
var junk = api.Key{Perm: 128, Base: 390, Len: 777, At: 999, Seal: 99}

func withRoom(m api.Machine, room int) api.Machine {
	m.Mem = roomy(m.Mem, room, aKey(junk))
	m.Stack = roomy(m.Stack, room, api.Frame{Code: junk, Data: aKey(junk)})
	m.Out = roomy(m.Out, room, 1<<40)
	return m
}

// machines has machines of many kinds, all of which may be.
func machines() []api.Machine {
	all := holder(400, taker(0, 400))
	for at := range all.Mem {
		all.Mem[at] = aKey(api.Key{Perm: at % 128, Base: at * 177 % 400, Len: at % 2, At: at, Seal: at % 64})
	}
	return []api.Machine{{}, rich(), all, chain(orders()[2]), {Mem: numbers(30), Stack: frames(16)}}
}

func TestNothingIsShared(t *testing.T) {
	for _, m := range machines() {
		for _, room := range []int{0, 1, 2, 1000} {
			for _, deep := range both {
				for _, p := range some {
					checkShares(t, withRoom(m, room), p, deep)
				}
			}
		}
	}
}

// answers is what all three calls answer.
type answers struct {
	keys         []api.Key
	cells, seals []int
}

func ask(m api.Machine, p int, deep bool) answers {
	l, _ := Keys(m, deep)
	cells, _ := Cells(m, p, deep)
	seals, _ := Seals(m, p, deep)
	return answers{l, cells, seals}
}

func (a answers) twin() answers {
	return answers{slices.Clone(a.keys), slices.Clone(a.cells), slices.Clone(a.seals)}
}

func (a answers) same(b answers) bool {
	return slices.Equal(a.keys, b.keys) && slices.Equal(a.cells, b.cells) && slices.Equal(a.seals, b.seals)
}

func (a answers) spoil() {
	fill(a.keys, junk)
	fill(a.cells, -5)
	fill(a.seals, -6)
}

// checkShares writes over all of the answers, then over all that was handed in, and looks at the other ones.
// It leaves m spoilt.
func checkShares(t *testing.T, m api.Machine, p int, deep bool) {
	t.Helper()
	was := whole(m)
	got, again := ask(m, p, deep), ask(m, p, deep)
	want := again.twin()
	got.spoil()
	if !same(whole(m), was) {
		t.Fatalf("p %d, deep %t: what was handed in has changed", p, deep)
	}
	if !again.same(want) {
		t.Fatalf("p %d, deep %t: two answers share memory", p, deep)
	}
	if more := ask(m, p, deep); !more.same(want) {
		t.Fatalf("p %d, deep %t: what is done to an answer is done to the next one", p, deep)
	}
	fill(m.Mem, aKey(junk))
	fill(m.Stack, api.Frame{Code: junk})
	fill(m.Out, -7)
	if !again.same(want) {
		t.Fatalf("p %d, deep %t: what is done to what was handed in is done to the answers", p, deep)
	}
}

// In the room behind an answer lies nothing that was behind what was handed in, and no key that is not in the answer.
func TestTheRoomBehindAnswers(t *testing.T) {
	for _, m := range machines() {
		for _, deep := range both {
			a := ask(withRoom(m, 1000), 0, deep)
			for _, k := range a.keys[len(a.keys):cap(a.keys)] {
				if k != (api.Key{}) {
					t.Errorf("deep %t: behind the keys lies %+v", deep, k)
				}
			}
			for _, l := range [][]int{a.cells, a.seals} {
				for _, n := range l[len(l):cap(l)] {
					if n != 0 {
						t.Errorf("deep %t: behind the places lies %d", deep, n)
					}
				}
			}
		}
	}
}

// However often one asks, and whatever one has asked in between, the answer is the same.
func TestAnswersAreTheSame(t *testing.T) {
	l := machines()
	for _, deep := range both {
		var first []answers
		for _, m := range l {
			first = append(first, ask(m, api.PLoad, deep))
		}
		for range 50 {
			for i, m := range l {
				if !ask(m, api.PLoad, deep).same(first[i]) {
					t.Fatalf("deep %t: machine %d is not answered as at first", deep, i)
				}
				ask(m, 0, !deep)
			}
		}
	}
}

// With a machine that is wrong nothing is kept of it either.
func TestErrorsLeaveNothing(t *testing.T) {
	m := rich()
	first := ask(m, api.PStore, true)
	for _, f := range faults() {
		wrong := rich()
		f.do(&wrong)
		refused(t, wrong, f.e)
		if !ask(m, api.PStore, true).same(first) {
			t.Fatalf("behind error %d it is not answered as at first", f.e)
		}
	}
}
