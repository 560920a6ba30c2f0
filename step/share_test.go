package step

import (
	"slices"
	"testing"

	"custodian/api"
)

// roomy answers list with so much room behind it, in which junk lies.
func roomy[T any](list []T, room int, junk T) []T {
	made := append(make([]T, 0, len(list)+room), list...)
	fill(made[len(list):], junk)
	return made
}

// fill makes all of a list v, the room behind it too.
func fill[T any](list []T, v T) {
	for i := range list[:cap(list)] {
		list[:cap(list)][i] = v
	}
}

// spoil writes over all that the lists of m have, the room behind them too.
func spoil(m api.Machine, n int) {
	fill(m.Mem, aNumber(n))
	fill(m.Stack, api.Frame{Data: aNumber(n)})
	fill(m.Out, n)
}

// good has a machine for each Op that goes well, and for each way that it can go on.
func good() []api.Machine {
	all := api.Key{Perm: 127, Len: 400, At: 20}
	seal := api.Key{Perm: 127, Len: 400, At: 5}
	back := ready(api.Inst{Op: api.Back})
	back.Stack = frames(1)
	return []api.Machine{
		ready(api.Inst{Op: api.Set, A: 1, C: 5}), ready(api.Inst{Op: api.Copy, A: 1, B: 2}),
		ready(api.Inst{Op: api.Add, B: 1, C: 2}), ready(api.Inst{Op: api.Sub, B: 1, C: 2}), ready(api.Inst{Op: api.Mul, B: 1, C: 2}),
		ready(api.Inst{Op: api.Div, B: 1, C: 2}), ready(api.Inst{Op: api.Less, B: 1, C: 2}),
		ready(api.Inst{Op: api.Jump}), ready(api.Inst{Op: api.If, C: -2}), with(api.Inst{Op: api.If, C: 5}, aNumber(0)),
		with(api.Inst{Op: api.Load, A: 1}, aKey(all)), with(api.Inst{Op: api.Store, A: 1}, aKey(all)), with(api.Inst{Op: api.Store, A: 0}, aKey(all)),
		with(api.Inst{Op: api.Move, C: 1}, aKey(all), aNumber(3)), with(api.Inst{Op: api.Narrow, C: 1}, aKey(all), aNumber(3)), with(api.Inst{Op: api.Drop, C: 3}, aKey(all)),
		with(api.Inst{Op: api.Seal, C: 1}, aKey(all), aKey(seal)), with(api.Inst{Op: api.Open, C: 1}, aKey(entry), aKey(seal)), with(api.Inst{Op: api.Ask}, aKey(all)),
		caller(0, 1, entry, store), back, ready(api.Inst{Op: api.Back}), ready(api.Inst{Op: api.Here}), ready(api.Inst{Op: api.Clear, C: 255}), ready(api.Inst{Op: api.Tell}),
	}
}

func TestStepSharesNothing(t *testing.T) {
	for _, m := range good() {
		for _, room := range []int{0, 1, 2, 1000} {
			checkShares(t, twin(m), room)
		}
	}
}

// checkShares writes over all of an answer, then over all that was handed in, and looks at the other ones.
// It leaves m spoilt.
func checkShares(t *testing.T, m api.Machine, room int) {
	t.Helper()
	m.Mem, m.Stack, m.Out = roomy(m.Mem, room, aNumber(31)), roomy(m.Stack, room, api.Frame{Data: aNumber(32)}), roomy(m.Out, room, 33)
	at := atInst(m)
	was := whole(m)
	got, e := Step(m)
	again, e2 := Step(m)
	if e != api.OK || e2 != api.OK || !same(got, again) {
		t.Fatalf("Step at %q = %d, and then %d", at, e, e2)
	}
	if !same(whole(m), was) {
		t.Errorf("Step at %q changed what was handed in", at)
	}
	want := twin(got)
	spoil(got, -5)
	if !same(whole(m), was) {
		t.Errorf("Step at %q: what is done to the answer is done to what was handed in", at)
	}
	if !same(again, want) {
		t.Errorf("Step at %q: two answers share memory", at)
	}
	spoil(m, -6)
	if !same(again, want) {
		t.Errorf("Step at %q: what is done to what was handed in is done to the answer", at)
	}
}

// No answer keeps in the room behind its lists what was handed in behind those.
func TestStepDoesNotTellTheRoomBehind(t *testing.T) {
	for _, m := range good() {
		m.Mem = roomy(m.Mem, 1000, someKey())
		m.Stack = roomy(m.Stack, 1000, api.Frame{Data: someKey()})
		m.Out = roomy(m.Out, 1000, 33)
		got, _ := Step(m)
		if slices.Contains(got.Mem[:cap(got.Mem)], someKey()) || slices.Contains(got.Stack[:cap(got.Stack)], api.Frame{Data: someKey()}) || slices.Contains(got.Out[:cap(got.Out)], 33) {
			t.Errorf("Step at %q told what lay behind a list", atInst(m))
		}
	}
}

// With each error nothing has changed, and nothing is told beside, also where there is room behind each list.
func TestErrorsChangeNothing(t *testing.T) {
	for _, m := range good() {
		i := m.Mem[place]
		m.Mem = roomy(m.Mem, 10, aNumber(31))
		m.Stack = roomy(m.Stack, 10, api.Frame{Data: aNumber(32)})
		m.Out = roomy(m.Out, 10, 33)
		m.Code.Seal = 1
		fails(t, m, api.ErrSealed)
		m.Code.Seal, m.Code.Perm = 0, 0
		fails(t, m, api.ErrPerm)
		m.Code.Perm, m.Mem[place] = api.PExec, someKey()
		fails(t, m, api.ErrForm)
		m.Mem[place] = i
		m.Regs[6] = api.Val{Is: true, N: 1}
		fails(t, m, api.ErrForm)
	}
}
