package step

import (
	"math"
	"testing"

	"custodian/api"
)

// full answers a machine that has as much as may be of everything, at the ends of what it may be.
func full() api.Machine {
	m := api.Machine{Code: api.Key{Perm: 127, Len: 400, At: 400, Seal: 63}, Mem: cells(400), Stack: frames(16), Out: told(100)}
	for r := range m.Regs {
		m.Regs[r] = aKey(api.Key{Perm: 127, Base: 400, At: 400, Seal: 63})
	}
	m.Regs[0], m.Regs[7] = aNumber(api.MinNumber), aNumber(api.MaxNumber)
	m.Out[0], m.Out[99] = api.MinNumber, api.MaxNumber
	return m
}

// checkCheck holds Check against what is wanted, and Step too, which begins with it.
func checkCheck(t *testing.T, m api.Machine, want api.Errno) {
	t.Helper()
	was := whole(m)
	if e := Check(m); e != want {
		t.Errorf("Check(%+v) = %d, want %d", m, e, want)
	}
	if !same(whole(m), was) {
		t.Errorf("Check(%+v) changed it", m)
	}
	if want != api.OK {
		fails(t, m, want)
	}
}

func TestCheckOfWhatMayBe(t *testing.T) {
	checkCheck(t, api.Machine{}, api.OK)
	checkCheck(t, api.Machine{Mem: []api.Val{}, Stack: []api.Frame{}, Out: []int{}}, api.OK)
	checkCheck(t, ready(api.Inst{}), api.OK)
	checkCheck(t, full(), api.OK)
}

func TestCheckOfEachRegister(t *testing.T) {
	for r := range 8 {
		for _, w := range wrongs {
			for _, m := range []api.Machine{{}, ready(api.Inst{}), full()} {
				m.Regs[r] = w.v
				checkCheck(t, m, w.e)
			}
		}
	}
}

func TestCheckTellsTheFirstWrongRegister(t *testing.T) {
	for first := range 8 {
		for second := first + 1; second < 8; second++ {
			for _, w := range wrongs {
				for _, other := range wrongs {
					m := ready(api.Inst{})
					m.Regs[first], m.Regs[second] = w.v, other.v
					checkCheck(t, m, w.e)
				}
			}
		}
	}
}

func TestCheckOfCode(t *testing.T) {
	for _, k := range wrongKeys {
		for _, m := range []api.Machine{{}, ready(api.Inst{}), full()} {
			m.Code = k
			checkCheck(t, m, api.ErrArg)
		}
	}
}

func TestCheckOfMemory(t *testing.T) {
	for _, n := range []int{0, 1, 399, 400} {
		checkCheck(t, api.Machine{Mem: cells(n)}, api.OK)
	}
	for _, n := range []int{401, 402, 1000} {
		checkCheck(t, api.Machine{Mem: cells(n)}, api.ErrLarge)
		m := full()
		m.Mem = cells(n)
		checkCheck(t, m, api.ErrLarge)
	}
	for _, w := range wrongs {
		for _, at := range []int{0, 1, 200, 398, 399} {
			m := full()
			m.Mem[at] = w.v
			checkCheck(t, m, w.e)
		}
		for _, at := range []int{0, 11, place, 13, 39} {
			m := ready(api.Inst{})
			m.Mem[at] = w.v
			checkCheck(t, m, w.e)
		}
	}
}

func TestCheckOfFrames(t *testing.T) {
	for n := range 30 {
		want := api.OK
		if n > 16 {
			want = api.ErrLarge
		}
		checkCheck(t, api.Machine{Stack: frames(n)}, want)
		checkCheck(t, api.Machine{Stack: make([]api.Frame, n)}, want)
	}
	for n := 1; n <= 16; n++ {
		for at := range n {
			for _, k := range wrongKeys {
				m := ready(api.Inst{})
				m.Stack = frames(n)
				m.Stack[at].Code = k
				checkCheck(t, m, api.ErrArg)
			}
			for _, w := range wrongs {
				m := ready(api.Inst{})
				m.Stack = frames(n)
				m.Stack[at].Data = w.v
				checkCheck(t, m, w.e)
			}
		}
	}
}

// Of one frame Code is looked at ahead of Data, and all of a frame ahead of the next one.
func TestCheckLooksFrameByFrame(t *testing.T) {
	form := api.Val{Is: true, N: 1}
	m := ready(api.Inst{})
	m.Stack = frames(5)
	m.Stack[2] = api.Frame{Code: api.Key{Seal: 64}, Data: form}
	checkCheck(t, m, api.ErrArg)
	m.Stack[1].Data = form
	checkCheck(t, m, api.ErrForm)
	m.Stack[0].Data = aNumber(math.MaxInt)
	checkCheck(t, m, api.ErrArg)
	m.Stack = frames(5)
	m.Stack[0].Data, m.Stack[1].Code = form, api.Key{Len: 401}
	checkCheck(t, m, api.ErrForm)
	m.Stack = frames(5)
	m.Stack[3].Data, m.Stack[4].Data = form, aNumber(1<<31)
	checkCheck(t, m, api.ErrForm)
}

func TestCheckOfWhatIsTold(t *testing.T) {
	for _, n := range []int{0, 1, 99, 100} {
		checkCheck(t, api.Machine{Out: told(n)}, api.OK)
	}
	for _, n := range []int{101, 102, 1000} {
		checkCheck(t, api.Machine{Out: told(n)}, api.ErrLarge)
		m := full()
		m.Out = told(n)
		checkCheck(t, m, api.ErrLarge)
	}
	for at := range 100 {
		for _, n := range []int{api.MaxNumber + 1, api.MinNumber - 1, 1 << 32, -1 << 32, math.MaxInt, math.MinInt} {
			m := full()
			m.Out[at] = n
			checkCheck(t, m, api.ErrArg)
		}
		for _, n := range []int{api.MaxNumber, api.MinNumber, 0, -1} {
			m := full()
			m.Out[at] = n
			checkCheck(t, m, api.OK)
		}
	}
}

// What lies in the room behind a list is none of it.
func TestCheckLooksAtNoRoomBehind(t *testing.T) {
	m := full()
	m.Mem = append(m.Mem, api.Val{N: math.MaxInt})[:400]
	m.Stack = append(m.Stack, api.Frame{Code: api.Key{Perm: -1}})[:16]
	m.Out = append(m.Out, math.MaxInt)[:100]
	checkCheck(t, m, api.OK)
}

// fault makes a machine wrong in one way, whatever else is wrong already.
type fault struct {
	do func(m *api.Machine)
	e  api.Errno
}

func wrongReg(r int, w wrong) fault {
	return fault{func(m *api.Machine) { m.Regs[r] = w.v }, w.e}
}

func wrongCode() fault { return fault{func(m *api.Machine) { m.Code.Len = 401 }, api.ErrArg} }

func largeMem() fault {
	return fault{func(m *api.Machine) { m.Mem = append(m.Mem, cells(400)...) }, api.ErrLarge}
}

func wrongCell(at int, w wrong) fault {
	return fault{func(m *api.Machine) { m.Mem[at] = w.v }, w.e}
}

func manyFrames() fault {
	return fault{func(m *api.Machine) { m.Stack = append(m.Stack, frames(15)...) }, api.ErrLarge}
}

func wrongFrameCode(at int) fault {
	return fault{func(m *api.Machine) { m.Stack[at].Code.At = 401 }, api.ErrArg}
}

func wrongFrameData(at int, w wrong) fault {
	return fault{func(m *api.Machine) { m.Stack[at].Data = w.v }, w.e}
}

func manyTold() fault {
	return fault{func(m *api.Machine) { m.Out = append(m.Out, told(98)...) }, api.ErrLarge}
}

func wrongTold() fault { return fault{func(m *api.Machine) { m.Out[1] = 1 << 31 }, api.ErrArg} }

// eachChoice makes all choices of the faults, which stand in the order of the chapter, and tells which error is first.
func eachChoice(start func() api.Machine, faults []fault, try func(m api.Machine, want api.Errno)) {
	for choice := range 1 << len(faults) {
		m, want := start(), api.OK
		for i, f := range faults {
			if choice>>i%2 == 0 {
				continue
			}
			f.do(&m)
			if want == api.OK {
				want = f.e
			}
		}
		try(m, want)
	}
}

// Each value that can be wrong is so in both ways in turn, so that of two that are wrong their order is seen.
func TestCheckTellsTheFirstError(t *testing.T) {
	ways := []wrong{{aNumber(1 << 31), api.ErrArg}, {api.Val{Is: true, N: 1}, api.ErrForm}}
	for _, reg := range ways {
		for _, there := range ways {
			for _, data := range ways {
				faults := []fault{
					wrongReg(1, reg), wrongReg(7, there), wrongCode(), largeMem(), wrongCell(3, there), manyFrames(),
					wrongFrameCode(0), wrongFrameData(0, data), wrongFrameCode(1), manyTold(), wrongTold(),
				}
				eachChoice(func() api.Machine { return ready(api.Inst{}) }, faults, func(m api.Machine, want api.Errno) {
					t.Helper()
					if e := Check(m); e != want {
						t.Fatalf("Check(%+v) = %d, want %d", m, e, want)
					}
					if want != api.OK {
						fails(t, m, want)
					}
				})
			}
		}
	}
}
