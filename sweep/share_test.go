package sweep

import (
	"testing"

	"custodian/api"
)

// junk lies in the room behind the lists that are handed in: it would be wrong if it were part of them.
var junk = api.Key{Perm: 128, Base: 390, Len: 777, At: 999, Seal: 99}

// roomy answers list with so much room behind it, in which v lies.
func roomy[T any](list []T, room int, v T) []T {
	made := append(make([]T, 0, len(list)+room), list...)
	fill(made[len(list):], v)
	return made
}

// fill makes all of a list v, the room behind it too.
func fill[T any](list []T, v T) {
	for i := range list[:cap(list)] {
		list[:cap(list)][i] = v
	}
}

func withRoom(m api.Machine, room int) api.Machine {
	m.Mem = roomy(m.Mem, room, aKey(junk))
	m.Stack = roomy(m.Stack, room, api.Frame{Code: junk, Data: aKey(junk)})
	m.Out = roomy(m.Out, room, 1<<40)
	return m
}

// spoil writes over all lists of a machine.
func spoil(m api.Machine) {
	fill(m.Mem, aKey(junk))
	fill(m.Stack, api.Frame{Code: junk, Data: aKey(junk)})
	fill(m.Out, -7)
}

// machines has machines of many kinds, all of which may be.
func machines() []api.Machine {
	all := api.Machine{Code: struck[1], Mem: numbers(400), Stack: frames(16), Out: told(100)}
	for at := range all.Mem {
		all.Mem[at] = aKey(api.Key{Perm: at % 128, Base: at * 177 % 400, Len: at % 2, At: at, Seal: at % 64})
	}
	hit := rich()
	hit.Mem[3], hit.Stack[2].Data, hit.Stack[3].Code = aKey(struck[0]), aKey(struck[1]), struck[2]
	return []api.Machine{{}, rich(), hit, all, {Mem: []api.Val{}, Stack: []api.Frame{}, Out: []int{}}, {Mem: numbers(30), Stack: frames(16)}}
}

func TestNothingIsShared(t *testing.T) {
	for _, m := range machines() {
		for _, room := range []int{0, 1, 2, 1000} {
			for _, c := range good {
				checkShares(t, withRoom(m, room), c.base, c.n)
			}
		}
	}
}

// checkShares writes over all of an answer, then over all that was handed in, and looks at the other ones.
// It leaves m spoilt.
func checkShares(t *testing.T, m api.Machine, base, n int) {
	t.Helper()
	was := whole(m)
	got, many, _ := Sweep(m, base, n)
	again, _, _ := Sweep(m, base, n)
	want := twin(again)
	if !same(whole(m), was) {
		t.Fatalf("from %d on, %d cells: what was handed in has changed", base, n)
	}
	spoil(got)
	if !same(whole(m), was) {
		t.Fatalf("from %d on, %d cells: what is done to the answer is done to what was handed in", base, n)
	}
	if !same(again, want) {
		t.Fatalf("from %d on, %d cells: two answers share memory", base, n)
	}
	sweeps(t, m, base, n, want, many)
	spoil(m)
	if !same(again, want) {
		t.Fatalf("from %d on, %d cells: what is done to what was handed in is done to the answer", base, n)
	}
}

// In the room behind an answer lies nothing that was behind what was handed in, and no key at all.
func TestTheRoomBehindAnswers(t *testing.T) {
	for _, m := range machines() {
		for _, c := range good {
			got, _, _ := Sweep(withRoom(m, 1000), c.base, c.n)
			all := whole(got)
			for _, v := range all.Mem[len(got.Mem):] {
				if v != (api.Val{}) {
					t.Errorf("behind the memory lies %+v", v)
				}
			}
			for _, f := range all.Stack[len(got.Stack):] {
				if f != (api.Frame{}) {
					t.Errorf("behind the frames lies %+v", f)
				}
			}
			for _, n := range all.Out[len(got.Out):] {
				if n != 0 {
					t.Errorf("behind what was told lies %d", n)
				}
			}
		}
	}
}

// What lies in the room behind a list is no part of the machine: there a key is neither struck nor wrong.
func TestTheRoomBehindWhatIsHandedIn(t *testing.T) {
	for _, k := range append(struck, junk) {
		m := rich()
		m.Mem = roomy(m.Mem, 20, aKey(k))
		m.Stack = roomy(m.Stack, 20, api.Frame{Code: k, Data: aKey(k)})
		stays(t, m, 200, 10)
	}
}

// However often one asks, and whatever one has asked in between, the answer is the same.
func TestAnswersAreTheSame(t *testing.T) {
	type answer struct {
		m    api.Machine
		many int
	}
	ask := func(m api.Machine, c cells) answer {
		got, many, _ := Sweep(m, c.base, c.n)
		return answer{got, many}
	}
	l := machines()
	first := map[int][]answer{}
	for i, m := range l {
		for _, c := range good {
			first[i] = append(first[i], ask(m, c))
		}
	}
	for range 20 {
		for j, c := range good {
			for i, m := range l {
				if a := ask(m, c); a.many != first[i][j].many || !same(a.m, first[i][j].m) {
					t.Fatalf("machine %d is not answered as at first from %d on, %d cells", i, c.base, c.n)
				}
				refused(t, m, -1, 5, api.ErrArg)
				if has, e := Has(m, c.base, c.n); e != api.OK || has != (first[i][j].many > 0) {
					t.Fatalf("machine %d: Has from %d on, %d cells = %t, %d", i, c.base, c.n, has, e)
				}
			}
		}
	}
}
