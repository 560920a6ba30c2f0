package step

import (
	"testing"

	"custodian/api"
)

// A pair that may be called.
var (
	entry = api.Key{Perm: api.PExec + api.PLoad, Base: 2, Len: 30, At: 17, Seal: 5}
	store = api.Key{Perm: api.PLoad + api.PStore, Base: 32, Len: 6, At: 33, Seal: 5}
)

// opened answers k, not sealed.
func opened(k api.Key) api.Key {
	k.Seal = 0
	return k
}

// caller answers a machine that calls the pair of code and data in R[a] and R[b].
func caller(a, b int, code, data api.Key) api.Machine {
	m := ready(api.Inst{Op: api.Call, A: a, B: b})
	m.Regs[a], m.Regs[b] = aKey(code), aKey(data)
	return m
}

// calls wants the pair to be called.
func calls(t *testing.T, m api.Machine, code, data api.Key) {
	t.Helper()
	goes(t, m, func(w *api.Machine) {
		w.Stack = append(w.Stack, api.Frame{Code: w.Code, Data: m.Regs[7]}) // Code's At is one more here
		w.Code = opened(code)
		w.Regs[7] = aKey(opened(data))
	})
}

func TestCallWrittenOut(t *testing.T) {
	m := caller(1, 2, entry, store)
	next, e := Step(m)
	if e != api.OK {
		t.Fatal(e)
	}
	if next.Code != (api.Key{Perm: 5, Base: 2, Len: 30, At: 17}) {
		t.Errorf("it runs by %+v", next.Code)
	}
	if len(next.Stack) != 3 || next.Stack[0] != m.Stack[0] || next.Stack[1] != m.Stack[1] {
		t.Fatalf("its frames are %+v", next.Stack)
	}
	if f := next.Stack[2]; f.Code != (api.Key{Perm: 5, Base: 10, Len: 5, At: 13}) || f.Data != aNumber(107) {
		t.Errorf("its last frame is %+v", f)
	}
	if next.Regs[7] != aKey(api.Key{Perm: 3, Base: 32, Len: 6, At: 33}) {
		t.Errorf("its last register is %+v", next.Regs[7])
	}
	if next.Regs[1] != aKey(entry) || next.Regs[2] != aKey(store) {
		t.Errorf("the pair is %+v, %+v", next.Regs[1], next.Regs[2])
	}
}

func TestCallByEachPairOfRegisters(t *testing.T) {
	for a := range 8 {
		for b := range 8 {
			if a != b {
				calls(t, caller(a, b, entry, store), entry, store)
			}
		}
	}
}

// One key is not both: it allows PExec, or it does not.
func TestCallOfOneRegister(t *testing.T) {
	for a := range 8 {
		for perm := range 128 {
			k := api.Key{Perm: perm, Len: 20, At: 3, Seal: 4}
			fails(t, caller(a, a, k, k), api.ErrPerm)
			fails(t, caller(a, a, opened(k), opened(k)), api.ErrSealed)
		}
	}
}

func TestCallWantsKeys(t *testing.T) {
	for a := range 8 {
		for b := range 8 {
			for _, v := range []api.Val{aKey(entry), aKey(opened(entry)), aKey(store), aNumber(4)} {
				m := ready(api.Inst{Op: api.Call, A: a, B: b})
				m.Regs[a] = v
				m.Regs[b] = aNumber(3)
				fails(t, m, api.ErrTag)
				m.Regs[b] = v
				m.Regs[a] = aNumber(0)
				fails(t, m, api.ErrTag)
				m.Stack = frames(16)
				fails(t, m, api.ErrTag)
			}
		}
	}
}

func TestCallByEachTwoSeals(t *testing.T) {
	for one := range 64 {
		for other := range 64 {
			code, data := entry, store
			code.Seal, data.Seal = one, other
			m := caller(3, 4, code, data)
			if one == 0 || other == 0 || one != other {
				fails(t, m, api.ErrSealed)
				continue
			}
			calls(t, m, code, data)
		}
	}
}

func TestCallByEachPerm(t *testing.T) {
	for perm := range 128 {
		for other := range 128 {
			code, data := entry, store
			code.Perm, data.Perm = perm, other
			m := caller(3, 4, code, data)
			if perm/4%2 == 0 || other/4%2 == 1 {
				fails(t, m, api.ErrPerm)
				continue
			}
			calls(t, m, code, data)
		}
	}
}

func TestCallAtEachDepth(t *testing.T) {
	for n := range 17 {
		m := caller(3, 4, entry, store)
		m.Stack = frames(n)
		if n == 16 {
			fails(t, m, api.ErrFull)
			continue
		}
		calls(t, m, entry, store)
	}
}

// Where the pair leads is not looked at: it is for the next step to tell.
func TestCallOfWhatLeadsNowhere(t *testing.T) {
	for _, code := range []api.Key{
		{Perm: 4, Seal: 5}, {Perm: 4, Base: 2, Len: 3, At: 400, Seal: 5}, {Perm: 4, Base: 400, At: 0, Seal: 5}, {Perm: 4, Base: 50, Len: 3, At: 50, Seal: 5},
	} {
		for _, data := range []api.Key{{Seal: 5}, {Perm: 123, Len: 400, At: 400, Seal: 5}} {
			m := caller(3, 4, code, data)
			calls(t, m, code, data)
			next, _ := Step(m)
			fails(t, next, api.ErrRange)
		}
	}
}

// All choices of what can be wrong, in the order of the chapter.
func TestCallTellsTheFirstError(t *testing.T) {
	number := func(r int) fault { return fault{func(m *api.Machine) { m.Regs[r] = aNumber(5) }, api.ErrTag} }
	unseal := func(r int) fault { return fault{func(m *api.Machine) { m.Regs[r].Key.Seal = 0 }, api.ErrSealed} }
	other := fault{func(m *api.Machine) { m.Regs[4].Key.Seal = 6 }, api.ErrSealed}
	perm := func(r int) fault { return fault{func(m *api.Machine) { m.Regs[r].Key.Perm ^= 4 }, api.ErrPerm} }
	deep := fault{func(m *api.Machine) { m.Stack = frames(16) }, api.ErrFull}
	for _, seal := range []fault{unseal(3), unseal(4), other} {
		start := func() api.Machine { return caller(3, 4, entry, store) }
		faults := []fault{seal, perm(3), perm(4), deep}
		eachChoice(start, faults, func(m api.Machine, want api.Errno) {
			t.Helper()
			if want != api.OK {
				fails(t, m, want)
			}
			for _, f := range []fault{number(3), number(4)} {
				wrong := twin(m)
				f.do(&wrong)
				fails(t, wrong, f.e)
			}
		})
	}
}

// At the last place the frame leads behind all cells, and one may come back there.
func TestCallAtTheLastPlace(t *testing.T) {
	m := jumper(399, api.Inst{Op: api.Call, A: 0, B: 1})
	m.Regs[0], m.Regs[1] = aKey(entry), aKey(store)
	calls(t, m, entry, store)
	next, _ := Step(m)
	if f := next.Stack[1]; f.Code.At != 400 {
		t.Errorf("the frame is %+v", f)
	}
}

func TestBackWithNoFrame(t *testing.T) {
	m := ready(api.Inst{Op: api.Back})
	m.Stack = nil
	fails(t, m, api.ErrHalt)
	m.Stack = []api.Frame{}
	fails(t, m, api.ErrHalt)
	m.Stack = frames(5)[:0]
	fails(t, m, api.ErrHalt)
}

func TestBack(t *testing.T) {
	for n := 1; n <= 16; n++ {
		m := ready(api.Inst{Op: api.Back})
		m.Stack = frames(n)
		last := frames(n)[n-1]
		goes(t, m, func(w *api.Machine) {
			w.Stack = frames(n)[:n-1]
			w.Code = last.Code // its At too: it was one more already
			w.Regs[7] = last.Data
		})
	}
}

// Whatever a frame has is gone on with: it is for the next step to tell that it does not run.
func TestBackToWhatDoesNotRun(t *testing.T) {
	for _, c := range []struct {
		code api.Key
		want api.Errno
	}{
		{api.Key{Perm: 4, Len: 400, At: 1, Seal: 9}, api.ErrSealed}, {api.Key{Perm: 123, Len: 400, At: 1}, api.ErrPerm}, {api.Key{}, api.ErrPerm}, {api.Key{Perm: 4, Len: 400, At: 400}, api.ErrRange},
	} {
		for _, data := range []api.Val{aNumber(api.MinNumber), someKey(), aKey(store)} {
			m := ready(api.Inst{Op: api.Back})
			m.Stack = append(frames(3), api.Frame{Code: c.code, Data: data})
			goes(t, m, func(w *api.Machine) { w.Stack, w.Code, w.Regs[7] = frames(3), c.code, data })
			next, _ := Step(m)
			fails(t, next, c.want)
		}
	}
}

// The frame that is there no more is not to be found in the room behind the others either.
func TestBackLeavesNothingBehind(t *testing.T) {
	m := ready(api.Inst{Op: api.Back})
	m.Stack = frames(4)
	next, _ := Step(m)
	for _, f := range next.Stack[:cap(next.Stack)][len(next.Stack):] {
		if f != (api.Frame{}) {
			t.Errorf("behind the frames lies %+v", f)
		}
	}
}

// Calls within calls, as deep as may be, and all of the way back.
func TestCallsAndBacks(t *testing.T) {
	m := api.Machine{Code: api.Key{Perm: api.PExec, Len: 2}, Mem: []api.Val{packed(api.Inst{Op: api.Call, A: 0, B: 1}), packed(api.Inst{Op: api.Back})}}
	m.Regs[0] = aKey(api.Key{Perm: api.PExec, Len: 2, Seal: 3})
	m.Regs[7] = aNumber(-1)
	for n := range 16 {
		m.Regs[1] = aKey(api.Key{Perm: api.PLoad, Base: n, Seal: 3})
		calls(t, m, m.Regs[0].Key, m.Regs[1].Key)
		m, _ = Step(m)
	}
	fails(t, m, api.ErrFull)
	m.Code.At = 1
	for n := 15; n >= 0; n-- {
		if m.Regs[7] != aKey(api.Key{Perm: api.PLoad, Base: n}) || m.Code != (api.Key{Perm: api.PExec, Len: 2, At: 1}) {
			t.Fatalf("%d deep it has %+v, and runs by %+v", n+1, m.Regs[7], m.Code)
		}
		m, _ = Step(m)
	}
	if m.Regs[7] != aNumber(-1) {
		t.Errorf("in the end it has %+v", m.Regs[7])
	}
	fails(t, m, api.ErrHalt)
}
