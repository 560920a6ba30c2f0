package reach

import (
	"math"
	"testing"

	"custodian/api"
	"custodian/step"
)

// told answers n numbers that all differ.
func told(n int) []int {
	l := make([]int, n)
	for i := range l {
		l[i] = 7000 + i
	}
	return l
}

// rich answers a machine with keys in all of its parts, by which something is come to.
func rich() api.Machine {
	m := holder(12, api.Key{Perm: api.PLoad + api.PTake, Base: 4, Len: 5, At: 4}, api.Key{Perm: api.PAll, Base: 1, Len: 9})
	m.Mem[4] = aKey(api.Key{Perm: api.PStore, Base: 6, Len: 2})
	m.Mem[8] = aKey(api.Key{Perm: api.PAll, Base: 9, Len: 2, Seal: 5})
	m.Stack, m.Out = frames(4), told(3)
	return m
}

// fault makes a machine wrong in one way, whatever else is wrong already.
type fault struct {
	do func(m *api.Machine)
	e  api.Errno
}

// faults has ways in which a machine may be wrong, in the order in which chapter 9 looks for them.
// Of values that stand behind each other the one is wrong by a field, the other one by its form.
func faults() []fault {
	field, form := aNumber(api.MaxNumber+1), api.Val{Is: true, N: 1}
	return []fault{
		{func(m *api.Machine) { m.Regs[0] = field }, api.ErrArg},
		{func(m *api.Machine) { m.Regs[7] = form }, api.ErrForm},
		{func(m *api.Machine) { m.Code.Perm = 128 }, api.ErrArg},
		{func(m *api.Machine) { m.Mem = append(m.Mem, numbers(389)...) }, api.ErrLarge},
		{func(m *api.Machine) { m.Mem[0] = field }, api.ErrArg},
		{func(m *api.Machine) { m.Mem[11] = form }, api.ErrForm},
		{func(m *api.Machine) { m.Stack = append(m.Stack, frames(13)...) }, api.ErrLarge},
		{func(m *api.Machine) { m.Stack[0].Code.At = 401 }, api.ErrArg},
		{func(m *api.Machine) { m.Stack[1].Data = form }, api.ErrForm},
		{func(m *api.Machine) { m.Stack[3].Code.Seal = 64 }, api.ErrArg},
		{func(m *api.Machine) { m.Out = append(m.Out, told(98)...) }, api.ErrLarge},
		{func(m *api.Machine) { m.Out[2] = math.MinInt }, api.ErrArg},
	}
}

func TestEachFault(t *testing.T) {
	for _, f := range faults() {
		m := rich()
		f.do(&m)
		refused(t, m, f.e)
	}
}

// Of all choices of faults the one that chapter 9 tells first is the answer.
func TestTheFirstErrorIsTold(t *testing.T) {
	all := faults()
	for choice := range 1 << len(all) {
		m, want := rich(), api.OK
		for i, f := range all {
			if choice>>i&1 == 1 {
				f.do(&m)
			}
			if choice>>i&1 == 1 && want == api.OK {
				want = f.e
			}
		}
		if want != api.OK {
			refused(t, m, want)
		}
	}
}

// What is wrong is told wherever it is, also where nothing leads to it, or where one does not look.
func TestWhatIsWrongIsToldWhereverItIs(t *testing.T) {
	wrong := api.Val{Is: true, Key: api.Key{Base: 400, Len: 1}}
	for r := range 8 {
		var m api.Machine
		m.Regs[r] = wrong
		refused(t, m, api.ErrArg)
	}
	for at := range 20 {
		m := api.Machine{Mem: numbers(20)}
		m.Mem[at] = wrong
		refused(t, m, api.ErrArg)
	}
	for i := range 16 {
		m := api.Machine{Stack: frames(16)}
		m.Stack[i].Data = wrong
		refused(t, m, api.ErrArg)
		m.Stack = frames(16)
		m.Stack[i].Code = wrong.Key
		refused(t, m, api.ErrArg)
	}
}

func TestTooMuch(t *testing.T) {
	for _, n := range []int{401, 402, 800, 5000} {
		refused(t, api.Machine{Mem: numbers(n)}, api.ErrLarge)
	}
	for _, n := range []int{17, 18, 100} {
		refused(t, api.Machine{Stack: frames(n)}, api.ErrLarge)
	}
	for _, n := range []int{101, 102, 1000} {
		refused(t, api.Machine{Out: told(n)}, api.ErrLarge)
	}
}

// Keys with fields that can't be walked, so far off are they.
func TestKeysThatAreFarOff(t *testing.T) {
	for _, k := range []api.Key{
		{Perm: 127, Base: math.MaxInt, Len: 1}, {Perm: 127, Base: 1, Len: math.MaxInt}, {Perm: 127, Base: math.MinInt, Len: math.MaxInt},
		{Perm: 127, Base: -1, Len: 5}, {Perm: 127, Len: -1}, {Perm: 127, Len: 401}, {Perm: math.MinInt}, {At: math.MaxInt}, {Seal: math.MinInt},
	} {
		m := rich()
		m.Regs[3] = aKey(k)
		refused(t, m, api.ErrArg)
		m = rich()
		m.Code = k
		refused(t, m, api.ErrArg)
		m = rich()
		m.Mem[5] = aKey(k)
		refused(t, m, api.ErrArg)
	}
}

// A machine that is no more than may be is not refused.
func TestAsMuchAsMayBe(t *testing.T) {
	m := api.Machine{Code: running, Mem: numbers(400), Stack: frames(16), Out: told(100)}
	if e := step.Check(m); e != api.OK {
		t.Fatal(e)
	}
	finds(t, m, false, some, running)
	want := []api.Key{running}
	for i, f := range m.Stack {
		want = append(want, f.Code)
		if i%2 == 1 {
			want = append(want, f.Data.Key)
		}
	}
	finds(t, m, true, some, want...)
}
