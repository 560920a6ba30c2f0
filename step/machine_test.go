package step

import (
	"math"
	"slices"
	"testing"

	"custodian/api"
	"custodian/inst"
)

func aNumber(n int) api.Val  { return api.Val{N: n} }
func aKey(k api.Key) api.Val { return api.Val{Is: true, Key: k} }

// wrong is a value that may not be, and why.
type wrong struct {
	v api.Val
	e api.Errno
}

// wrongs has values that may not be, each reason of chapter 5 among them.
var wrongs = []wrong{
	{aNumber(api.MaxNumber + 1), api.ErrArg},
	{aNumber(api.MinNumber - 1), api.ErrArg},
	{aNumber(math.MaxInt), api.ErrArg},
	{aNumber(math.MinInt), api.ErrArg},
	{api.Val{N: 1 << 32, Key: api.Key{At: 1}}, api.ErrArg},
	{api.Val{Key: api.Key{At: 1}}, api.ErrForm},
	{api.Val{N: 5, Key: api.Key{Seal: -1}}, api.ErrForm},
	{aKey(api.Key{Perm: 128}), api.ErrArg},
	{aKey(api.Key{Seal: 64}), api.ErrArg},
	{api.Val{Is: true, N: 7, Key: api.Key{At: 401}}, api.ErrArg},
	{api.Val{Is: true, N: 1}, api.ErrForm},
	{api.Val{Is: true, N: math.MinInt, Key: api.Key{Perm: 127, Len: 400}}, api.ErrForm},
}

// wrongKeys has keys that may not be, each reason of chapter 3 among them.
var wrongKeys = []api.Key{
	{Perm: -1}, {Perm: 128}, {Base: -1, Len: 5}, {Base: 401}, {Len: -1}, {Len: 401}, {Base: 1, Len: 400}, {Base: math.MaxInt, Len: 1},
	{Base: 1, Len: math.MaxInt}, {At: -1}, {At: 401}, {At: math.MinInt}, {Seal: -1}, {Seal: 64}, {Seal: math.MaxInt},
}

// cells answers a memory of n cells that all differ, and none of which is an instruction: numbers of both signs, keys, and sealed ones.
func cells(n int) []api.Val {
	m := make([]api.Val, n)
	for at := range m {
		switch at % 4 {
		case 0:
			m[at] = aNumber(-1000 - at)
		case 1:
			m[at] = aKey(api.Key{Perm: at % 128, Base: at % 300, Len: 1 + at%100, At: at % 401})
		case 2:
			m[at] = aNumber(api.MinNumber + at)
		case 3:
			m[at] = aKey(api.Key{Perm: 127, Len: 400, At: at % 401, Seal: 1 + at%63})
		}
	}
	return m
}

// frames answers n frames that all differ.
func frames(n int) []api.Frame {
	l := make([]api.Frame, n)
	for i := range l {
		l[i] = api.Frame{Code: api.Key{Perm: api.PExec + i, Base: i, Len: 20 + i, At: 2 * i}, Data: aNumber(500 + i)}
		if i%2 == 1 {
			l[i].Data = aKey(api.Key{Perm: 3, Base: 30 + i, Len: i, At: 30, Seal: i})
		}
	}
	return l
}

// told answers n numbers that all differ.
func told(n int) []int {
	l := make([]int, n)
	for i := range l {
		l[i] = 7000 + i
	}
	return l
}

// packed answers an instruction as a cell.
func packed(i api.Inst) api.Val {
	n, e := inst.Pack(i)
	if e != api.OK {
		panic(i) // no test means to have one that may not be
	}
	return aNumber(n)
}

// Where the instruction of a machine of the tests lies.
const place = 12

// ready answers a machine that is at the instruction i, in all of whose parts there is something.
func ready(i api.Inst) api.Machine {
	m := api.Machine{
		Code:  api.Key{Perm: api.PExec + api.PLoad, Base: 10, Len: 5, At: place},
		Mem:   cells(40),
		Stack: frames(2),
		Out:   told(3),
	}
	for r := range m.Regs {
		m.Regs[r] = aNumber(100 + r)
	}
	m.Mem[place] = packed(i)
	return m
}

// with answers such a machine with some of its registers first.
func with(i api.Inst, regs ...api.Val) api.Machine {
	m := ready(i)
	copy(m.Regs[:], regs)
	return m
}

// whole answers a copy of m in which the room behind each list is part of it.
func whole(m api.Machine) api.Machine {
	m.Mem = slices.Clone(m.Mem[:cap(m.Mem)])
	m.Stack = slices.Clone(m.Stack[:cap(m.Stack)])
	m.Out = slices.Clone(m.Out[:cap(m.Out)])
	return m
}

// twin answers a copy of m that shares nothing with it.
func twin(m api.Machine) api.Machine {
	m.Mem, m.Stack, m.Out = slices.Clone(m.Mem), slices.Clone(m.Stack), slices.Clone(m.Out)
	return m
}

func same(a, b api.Machine) bool {
	return a.Regs == b.Regs && a.Code == b.Code && slices.Equal(a.Mem, b.Mem) && slices.Equal(a.Stack, b.Stack) && slices.Equal(a.Out, b.Out)
}

// atInst tells for a message at which instruction m is.
func atInst(m api.Machine) string {
	if m.Code.At < 0 || m.Code.At >= len(m.Mem) {
		return "no cell"
	}
	i, _ := inst.Read(m.Mem[m.Code.At].N)
	s, _ := inst.Text(i)
	return s
}

// checkStep holds Step, done twice, against what is wanted, and what was handed in against what it was.
func checkStep(t *testing.T, m, want api.Machine, wantE api.Errno) {
	t.Helper()
	was := whole(m)
	for range 2 {
		got, e := Step(m)
		if e != wantE {
			t.Fatalf("Step at %q, %+v, %+v = %d, want %d", atInst(m), m.Code, m.Regs, e, wantE)
		}
		if !same(got, want) {
			t.Fatalf("Step at %q, %+v, %+v\n= %+v\nwant %+v", atInst(m), m.Code, m.Regs, got, want)
		}
		if e != api.OK && (got.Mem != nil || got.Stack != nil || got.Out != nil) {
			t.Fatalf("Step at %q, %+v, %+v = %d, and a list beside it", atInst(m), m.Code, m.Regs, e)
		}
		if e == api.OK && Check(got) != api.OK {
			t.Fatalf("Step at %q, %+v, %+v: Check of the answer = %d", atInst(m), m.Code, m.Regs, Check(got))
		}
	}
	if !same(whole(m), was) {
		t.Fatalf("Step at %q, %+v, %+v changed what was handed in", atInst(m), m.Code, m.Regs)
	}
}

// fails wants the error, and nothing beside it.
func fails(t *testing.T, m api.Machine, e api.Errno) {
	t.Helper()
	checkStep(t, m, api.Machine{}, e)
}

// goes wants Code's At to be one more, and what change makes of the machine.
func goes(t *testing.T, m api.Machine, change func(w *api.Machine)) {
	t.Helper()
	want := twin(m)
	want.Code.At++
	change(&want)
	checkStep(t, m, want, api.OK)
}

// puts wants one register to have become v, and nothing else but At to have changed.
func puts(t *testing.T, m api.Machine, r int, v api.Val) {
	t.Helper()
	goes(t, m, func(w *api.Machine) { w.Regs[r] = v })
}
