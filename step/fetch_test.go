package step

import (
	"testing"

	"custodian/api"
	"custodian/inst"
)

// noInsts has numbers that inst.Read reads nothing of.
var noInsts = []int{0, 5, -1, 23, 31, 4194304 + 23, 4194304 + 31, 4194304 + 32, 4194304 - 2048, 4194304 + 2048, 1 << 23, 1<<23 + 4194304, api.MaxNumber, api.MinNumber, api.MinNumber + 4194304}

func TestNumbersThatAreNoInstructions(t *testing.T) {
	for _, n := range noInsts {
		if i, e := inst.Read(n); e != api.ErrForm {
			t.Errorf("%d is %+v", n, i)
		}
		m := ready(api.Inst{Op: api.Set, A: 1, C: 5})
		m.Mem[place] = aNumber(n)
		fails(t, m, api.ErrForm)
	}
}

// A key is no instruction, also not one for the very cell in which it lies.
func TestKeysAreNoInstructions(t *testing.T) {
	for _, k := range []api.Key{{}, {Perm: 127, Len: 400}, {Perm: api.PExec, Base: 10, Len: 5, At: place}, {Seal: 1}} {
		m := ready(api.Inst{Op: api.Set, A: 1, C: 5})
		m.Mem[place] = aKey(k)
		fails(t, m, api.ErrForm)
	}
}

func TestSealedCodeDoesNotRun(t *testing.T) {
	for seal := 1; seal <= 63; seal++ {
		m := ready(api.Inst{Op: api.Set, A: 1, C: 5})
		m.Code.Seal = seal
		fails(t, m, api.ErrSealed)
	}
}

func TestCodeRunsByPExecAlone(t *testing.T) {
	for perm := range 128 {
		m := ready(api.Inst{Op: api.Set, A: 1, C: 5})
		m.Code.Perm = perm
		if perm/4%2 == 0 {
			fails(t, m, api.ErrPerm)
			continue
		}
		puts(t, m, 1, aNumber(5))
	}
}

// Each place at which Code can be, for each of its ranges, told cell by cell.
func TestPlacesOfCode(t *testing.T) {
	for n := range 7 {
		memory := make([]api.Val, n)
		for at := range memory {
			memory[at] = packed(api.Inst{Op: api.Set, A: 2, C: 10 + at})
		}
		for base := range 8 {
			for have := range 8 - base {
				for at := range 10 {
					m := api.Machine{Code: api.Key{Perm: api.PExec, Base: base, Len: have, At: at}, Mem: memory}
					if at >= base && at < base+have && at < n {
						puts(t, m, 2, aNumber(10+at))
						continue
					}
					fails(t, m, api.ErrRange)
				}
			}
		}
	}
}

func TestPlacesOfCodeWrittenOut(t *testing.T) {
	for _, c := range []struct {
		base, n, at int
		want        api.Errno
	}{
		{10, 5, 10, api.OK}, {10, 5, 14, api.OK}, {10, 5, 9, api.ErrRange}, {10, 5, 15, api.ErrRange}, {10, 5, 0, api.ErrRange}, {10, 5, 400, api.ErrRange},
		{0, 400, 0, api.OK}, {0, 400, 39, api.OK}, {0, 400, 40, api.ErrRange}, {0, 400, 399, api.ErrRange}, {0, 400, 400, api.ErrRange},
		{39, 1, 39, api.OK}, {40, 1, 40, api.ErrRange}, {39, 361, 40, api.ErrRange}, {12, 0, 12, api.ErrRange}, {0, 0, 0, api.ErrRange}, {400, 0, 400, api.ErrRange},
	} {
		m := ready(api.Inst{})
		for at := range m.Mem {
			m.Mem[at] = packed(api.Inst{Op: api.Set, A: 4, C: at})
		}
		m.Code = api.Key{Perm: api.PExec, Base: c.base, Len: c.n, At: c.at}
		if c.want != api.OK {
			fails(t, m, c.want)
			continue
		}
		puts(t, m, 4, aNumber(c.at))
	}
}

// The room behind the last cell is none of the memory's, though an instruction lies there.
func TestNoInstructionIsReadFromTheRoomBehind(t *testing.T) {
	m := ready(api.Inst{Op: api.Set, A: 1, C: 5})
	m.Mem = m.Mem[:place]
	fails(t, m, api.ErrRange)
}

// At the last place At is one more as well, where no cell is; the next step fails there.
func TestAtIsOneMoreAlsoAtTheLastPlace(t *testing.T) {
	for _, n := range []int{1, 13, 40, 399, 400} {
		for _, base := range []int{0, n - 1} {
			m := api.Machine{Code: api.Key{Perm: api.PExec, Base: base, Len: n - base, At: n - 1}, Mem: cells(n)}
			m.Mem[n-1] = packed(api.Inst{Op: api.Set, A: 7, C: -2048})
			puts(t, m, 7, aNumber(-2048))
			next, _ := Step(m)
			if next.Code.At != n {
				t.Errorf("behind cell %d At is %d", n-1, next.Code.At)
			}
			fails(t, next, api.ErrRange)
		}
	}
}

func sealedCode() fault { return fault{func(m *api.Machine) { m.Code.Seal = 9 }, api.ErrSealed} }

func noExec() fault { return fault{func(m *api.Machine) { m.Code.Perm &^= api.PExec }, api.ErrPerm} }

func outsideCode() fault {
	return fault{func(m *api.Machine) { m.Code.Base = m.Code.At + 1 }, api.ErrRange}
}

// outsideMem leaves no cell at which Code could be.
func outsideMem() fault {
	return fault{func(m *api.Machine) { m.Mem = m.Mem[:min(len(m.Mem), place)] }, api.ErrRange}
}

func there(v api.Val) fault {
	return fault{func(m *api.Machine) {
		if len(m.Mem) > place {
			m.Mem[place] = v
		}
	}, api.ErrForm}
}

func keyTold() fault { return fault{func(m *api.Machine) { m.Regs[3] = aKey(api.Key{}) }, api.ErrTag} }

// outFull leaves no room, if there is not too much already.
func outFull() fault {
	return fault{func(m *api.Machine) {
		for len(m.Out) < 100 {
			m.Out = append(m.Out, 5)
		}
	}, api.ErrFull}
}

// All that a step looks at, in the order of the chapter; behind it an instruction that has two errors of its own.
func TestStepTellsTheFirstError(t *testing.T) {
	start := func() api.Machine { return ready(api.Inst{Op: api.Tell, A: 3}) }
	for _, w := range []wrong{{aNumber(1 << 31), api.ErrArg}, {api.Val{Is: true, N: 1}, api.ErrForm}} {
		for _, v := range []api.Val{aKey(api.Key{Perm: 127, Len: 400}), aNumber(5)} {
			faults := []fault{
				wrongReg(0, w), wrongCode(), wrongCell(3, w), wrongFrameData(1, w), wrongTold(),
				sealedCode(), noExec(), outsideCode(), outsideMem(), there(v), keyTold(), outFull(),
			}
			eachChoice(start, faults, func(m api.Machine, want api.Errno) {
				t.Helper()
				if want != api.OK {
					fails(t, m, want)
					return
				}
				goes(t, m, func(w *api.Machine) { w.Out = append(w.Out, 103) })
			})
		}
	}
}

// A machine with nothing in it is one that may be, but it has nothing to run by.
func TestStepOfTheMachineOfZeros(t *testing.T) {
	fails(t, api.Machine{}, api.ErrPerm)
	fails(t, api.Machine{Code: api.Key{Perm: api.PExec}}, api.ErrRange)
	fails(t, api.Machine{Code: api.Key{Perm: api.PExec, Len: 1}}, api.ErrRange)
	fails(t, api.Machine{Code: api.Key{Perm: api.PExec, Len: 1}, Mem: make([]api.Val, 1)}, api.ErrForm)
	fails(t, api.Machine{Code: api.Key{Perm: api.PExec, Len: 1}, Mem: []api.Val{aNumber(4194304)}}, api.ErrHalt)
}
