package run

import (
	"strings"
	"testing"

	"custodian/api"
)

// A pair that may be called, sealed as one.
var (
	entry = api.Key{Perm: api.PExec, Base: 6, Len: 4, At: 6, Seal: 3}
	data  = api.Key{Perm: api.PLoad, Base: 10, Len: 2, At: 10, Seal: 3}
)

// stuck answers a machine that is at the one instruction that is there, in all of whose parts there is something.
func stuck(text string, change func(m *api.Machine)) api.Machine {
	m := start(text)
	m.Mem = append(m.Mem, aNumber(77), aKey(data))
	m.Stack, m.Out = frames(2), told(3)
	m.Regs[1], m.Regs[2], m.Regs[3] = aKey(api.Key{Perm: api.PLoad, Len: 3, At: 1}), aKey(entry), aNumber(5)
	change(&m)
	return m
}

// endings has machines whose very next step has an error, each that a step can have among them.
func endings() []ending {
	as := func(*api.Machine) {}
	alone := func(m *api.Machine) { m.Stack = nil }
	return []ending{
		{"halt", stuck("halt", as), api.ErrHalt},
		{"back, no frame", stuck("back", alone), api.ErrHalt},
		{"code sealed", stuck("set r1 1", func(m *api.Machine) { m.Code.Seal = 1 }), api.ErrSealed},
		{"code may not run", stuck("set r1 1", func(m *api.Machine) { m.Code.Perm = api.PAll - api.PExec }), api.ErrPerm},
		{"behind code", stuck("set r1 1", func(m *api.Machine) { m.Code.At = 1 }), api.ErrRange},
		{"behind memory", stuck("set r1 1", func(m *api.Machine) { m.Code.Len, m.Code.At = 400, 3 }), api.ErrRange},
		{"no memory", api.Machine{Code: api.Key{Perm: api.PExec, Len: 400}}, api.ErrRange},
		{"machine of zeros", api.Machine{}, api.ErrPerm},
		{"word", stuck("word 5", as), api.ErrForm},
		{"key as code", stuck("halt", func(m *api.Machine) { m.Mem[0] = aKey(data) }), api.ErrForm},
		{"no number", stuck("add r0 r1 r3", as), api.ErrTag},
		{"no key", stuck("load r0 r3 0", as), api.ErrTag},
		{"key told", stuck("tell r1", as), api.ErrTag},
		{"by nought", stuck("div r0 r3 r0", as), api.ErrZero},
		{"jump too low", stuck("jump -1", as), api.ErrRange},
		{"jump too high", stuck("jump 401", as), api.ErrRange},
		{"load sealed", stuck("load r0 r2 0", as), api.ErrSealed},
		{"store not allowed", stuck("store r3 r1 0", as), api.ErrPerm},
		{"load outside", stuck("load r0 r1 2", as), api.ErrRange},
		{"narrow sealed", stuck("narrow r0 r2 r3", as), api.ErrSealed},
		{"call of what is not sealed", stuck("call r1 r1", as), api.ErrSealed},
		{"call of no code", stuck("call r2 r2", as), api.ErrPerm},
		{"call too deep", stuck("call r2 r1", func(m *api.Machine) { m.Regs[1], m.Stack = aKey(data), frames(16) }), api.ErrFull},
		{"tell too much", stuck("tell r3", func(m *api.Machine) { m.Out = told(100) }), api.ErrFull},
	}
}

func TestFirstStepHasAnError(t *testing.T) {
	for _, c := range endings() {
		t.Run(c.name, func(t *testing.T) {
			ends(t, c.m, 0, c.m, nil, api.ErrFuel)
			for _, fuel := range []int{1, 2, 3, 100, 5000} {
				ends(t, c.m, fuel, c.m, nil, c.e)
			}
			for _, fuel := range wrongFuels {
				refused(t, c.m, fuel, api.ErrArg)
			}
		})
	}
}

// Each error that a step has ends a run that came to it, and is told beside the machine that came there.
func TestRunsThatEnd(t *testing.T) {
	for _, c := range []struct {
		name, last string
		e          api.Errno
	}{
		{"halt", "halt", api.ErrHalt}, {"back, no frame", "back", api.ErrHalt}, {"word", "word 5", api.ErrForm}, {"word below 0", "word -1", api.ErrForm},
		{"key told", "tell r5", api.ErrTag}, {"no key", "move r0 r1 r1", api.ErrTag}, {"by nought", "div r1 r1 r0", api.ErrZero},
		{"jump too low", "jump -2000", api.ErrRange}, {"jump too high", "jump 2000", api.ErrRange}, {"if too high", "if r2 2000", api.ErrRange},
		{"sealed", "load r0 r4 0", api.ErrSealed}, {"not sealed", "call r6 r5", api.ErrSealed}, {"no code", "call r5 r5", api.ErrPerm},
		{"not allowed", "store r1 r6 0", api.ErrPerm}, {"outside", "load r1 r6 2", api.ErrRange},
	} {
		t.Run(c.name, func(t *testing.T) {
			for _, n := range []int{0, 1, 2, 7, 50, 100} {
				m := start(strings.Repeat("add r1 r1 r2\n", n) + c.last)
				m.Regs[2], m.Regs[4], m.Regs[5] = aNumber(1), aKey(entry), aKey(data)
				m.Regs[6] = aKey(api.Key{Perm: api.PLoad, Len: 2})
				want := twin(m)
				want.Regs[1], want.Code.At = aNumber(n), n
				ends(t, m, n, want, upTo(n), api.ErrFuel)
				for _, fuel := range []int{n + 1, n + 2, 5000} {
					ends(t, m, fuel, want, upTo(n), c.e)
				}
			}
		})
	}
}

// What runs behind its last cell is told there, where the key has no cell, or the memory has none.
func TestRunsBehindTheLastCell(t *testing.T) {
	for _, size := range []int{3, 4, 400} {
		m := start(strings.Repeat("add r1 r1 r2\n", 3))
		m.Code.Len = size
		m.Regs[2] = aNumber(1)
		want := twin(m)
		want.Regs[1], want.Code.At = aNumber(3), 3
		ends(t, m, 3, want, upTo(3), api.ErrFuel)
		ends(t, m, 4, want, upTo(3), api.ErrRange)
	}
	m := start("set r1 1")
	m.Code.Len = 400
	for len(m.Mem) < 400 {
		m.Mem = append(m.Mem, m.Mem[0])
	}
	want := twin(m)
	want.Regs[1], want.Code.At = aNumber(1), 400
	ends(t, m, 400, want, upTo(400), api.ErrFuel)
	ends(t, m, 401, want, upTo(400), api.ErrRange)
}

// A step that comes back by a sealed key, or by one that does not allow to run, is done; the one behind it is not.
func TestRunsBackToWhatDoesNotRun(t *testing.T) {
	for _, c := range []struct {
		code api.Key
		e    api.Errno
	}{
		{api.Key{Perm: api.PExec, Len: 2, At: 1, Seal: 5}, api.ErrSealed}, {api.Key{Perm: api.PLoad, Len: 2, At: 1}, api.ErrPerm}, {api.Key{Perm: api.PExec, Base: 1, Len: 1}, api.ErrRange},
	} {
		m := start("back\nhalt")
		m.Stack = append(frames(1), api.Frame{Code: c.code, Data: aNumber(9)})
		want := twin(m)
		want.Stack, want.Code, want.Regs[7] = frames(1), c.code, aNumber(9)
		ends(t, m, 0, m, nil, api.ErrFuel)
		ends(t, m, 1, want, upTo(1), api.ErrFuel)
		ends(t, m, 2, want, upTo(1), c.e)
		ends(t, m, 5000, want, upTo(1), c.e)
	}
}

func TestRunsThatTellTooMuch(t *testing.T) {
	for _, had := range []int{0, 1, 3, 98, 99, 100} {
		m := start("tell r1\njump -1")
		m.Out = told(had)
		m.Regs[1] = aNumber(-4)
		left := 100 - had
		want := twin(m)
		for len(want.Out) < 100 {
			want.Out = append(want.Out, -4)
		}
		places := make([]int, 2*left)
		for i := range places {
			places[i] = i % 2
		}
		ends(t, m, 2*left, want, places, api.ErrFuel)
		ends(t, m, 2*left+1, want, places, api.ErrFull)
		ends(t, m, 5000, want, places, api.ErrFull)
	}
}

func TestRunsThatCallTooDeep(t *testing.T) {
	for _, had := range []int{0, 1, 15, 16} {
		m := start("call r1 r2\nhalt")
		m.Stack = frames(had)
		m.Regs[1], m.Regs[2] = aKey(api.Key{Perm: api.PExec, Len: 2, Seal: 4}), aKey(api.Key{Perm: api.PLoad, Seal: 4})
		want := twin(m)
		for len(want.Stack) < 16 {
			want.Stack = append(want.Stack, api.Frame{Code: api.Key{Perm: api.PExec, Len: 2, At: 1}, Data: want.Regs[7]})
			want.Regs[7] = aKey(api.Key{Perm: api.PLoad})
		}
		places := make([]int, 16-had)
		ends(t, m, 16-had, want, places, api.ErrFuel)
		ends(t, m, 17-had, want, places, api.ErrFull)
		ends(t, m, 5000, want, places, api.ErrFull)
	}
}

// busy answers a machine that stores, tells, calls, and in what it called divides by nought.
func busy() api.Machine {
	m := start(strings.Join([]string{
		"set r1 5", "store r1 r6 0", "tell r1", "call r4 r5", "halt", "word 0",
		"set r2 7", "store r2 r6 1", "div r2 r1 r0", "back",
		"word 0", "word 0",
	}, "\n"))
	m.Code.Len = 5
	m.Regs[4], m.Regs[5], m.Regs[7] = aKey(entry), aKey(data), aNumber(70)
	m.Regs[6] = aKey(api.Key{Perm: api.PStore, Base: 10, Len: 2, At: 10})
	return m
}

// The machine that is told is the one that the last step left, in all of its parts.
func TestMachineThatIsTold(t *testing.T) {
	places := []int{0, 1, 2, 3, 6, 7}
	changes := []func(w *api.Machine){
		func(w *api.Machine) { w.Regs[1], w.Code.At = aNumber(5), 1 },
		func(w *api.Machine) { w.Mem[10], w.Code.At = aNumber(5), 2 },
		func(w *api.Machine) { w.Out, w.Code.At = []int{5}, 3 },
		func(w *api.Machine) {
			w.Stack = []api.Frame{{Code: api.Key{Perm: api.PExec, Len: 5, At: 4}, Data: aNumber(70)}}
			w.Code = api.Key{Perm: api.PExec, Base: 6, Len: 4, At: 6}
			w.Regs[7] = aKey(api.Key{Perm: api.PLoad, Base: 10, Len: 2, At: 10})
		},
		func(w *api.Machine) { w.Regs[2], w.Code.At = aNumber(7), 7 },
		func(w *api.Machine) { w.Mem[11], w.Code.At = aNumber(7), 8 },
	}
	want := busy()
	ends(t, busy(), 0, want, nil, api.ErrFuel)
	for i, change := range changes {
		change(&want)
		ends(t, busy(), i+1, want, places[:i+1], api.ErrFuel)
	}
	for _, fuel := range []int{7, 8, 100, 5000} {
		ends(t, busy(), fuel, want, places, api.ErrZero)
	}
}

// The same with something to divide by: it comes back, and halts where it was called.
func TestMachineThatComesBack(t *testing.T) {
	m := busy()
	m.Regs[0] = aNumber(-2)
	want := twin(m)
	want.Regs[1], want.Regs[2], want.Code.At = aNumber(5), aNumber(-2), 4
	want.Mem[10], want.Mem[11], want.Out = aNumber(5), aNumber(7), []int{5}
	places := []int{0, 1, 2, 3, 6, 7, 8, 9}
	ends(t, m, 8, want, places, api.ErrFuel)
	ends(t, m, 9, want, places, api.ErrHalt)
	ends(t, m, 5000, want, places, api.ErrHalt)
}
