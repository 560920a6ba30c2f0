package step

import (
	"custodian/api"
	"custodian/keys"
	"custodian/mem"
	"custodian/num"
	"custodian/perm"
)

// dataReg is the register that a call has for the callee's data, and in which the caller's own is found again.
const dataReg = api.Regs - 1

// What is asked of a value. All but the first are asked of keys alone.
const (
	askKey = iota
	askPerm
	askBase
	askLen
	askAt
	askSeal
)

// act does what the instruction says. Where that leads elsewhere than behind it, it is told by next.
func (s *stepper) act() {
	switch s.Op {
	case api.Halt:
		panic(halted{})
	case api.Set:
		s.putNumber(s.C)
	case api.Copy:
		s.Regs[s.A] = s.Regs[s.B]
	case api.Add, api.Sub, api.Mul, api.Div, api.Less:
		s.putNumber(s.reckon(s.number(s.B), s.number(s.C)))
	case api.Jump:
		s.jump()
	case api.If:
		if s.number(s.A) != 0 {
			s.jump()
		}
	case api.Load:
		s.Regs[s.A] = sure(mem.Load(s.Mem, s.key(s.B), s.C))
	case api.Store:
		s.Mem = sure(mem.Store(s.Mem, s.key(s.B), s.C, s.Regs[s.A]))
	case api.Move, api.Narrow:
		s.putKey(s.shift(s.key(s.B), s.number(s.C)))
	case api.Drop:
		s.putKey(sure(keys.Drop(s.key(s.B), s.C)))
	case api.Seal:
		s.putKey(sure(keys.Seal(s.key(s.B), s.key(s.C))))
	case api.Open:
		s.putKey(sure(keys.Open(s.key(s.B), s.key(s.C))))
	case api.Ask:
		s.putNumber(s.ask())
	case api.Call:
		s.call(s.key(s.A), s.key(s.B))
	case api.Back:
		s.back()
	case api.Here:
		s.putKey(s.Code)
	case api.Clear:
		s.clear()
	case api.Tell:
		s.tell(s.number(s.A))
	}
}

// number answers what a register has, WANTED as a number.
func (s *stepper) number(r int) int {
	if s.Regs[r].Is {
		panic(unlike{})
	}
	return s.Regs[r].N
}

// key answers what a register has, WANTED as a key.
func (s *stepper) key(r int) api.Key {
	if !s.Regs[r].Is {
		panic(unlike{})
	}
	return s.Regs[r].Key
}

func (s *stepper) putNumber(n int) { s.Regs[s.A] = api.Val{N: n} }

func (s *stepper) putKey(k api.Key) { s.Regs[s.A] = api.Val{Is: true, Key: k} }

// reckon answers what chapter 1 tells of a and b.
func (s *stepper) reckon(a, b int) int {
	switch s.Op {
	case api.Add:
		return num.Add(a, b)
	case api.Sub:
		return num.Sub(a, b)
	case api.Mul:
		return num.Mul(a, b)
	case api.Div:
		return sure(num.Div(a, b))
	}
	return num.Less(a, b)
}

// shift answers k by n further, or for n cells.
func (s *stepper) shift(k api.Key, n int) api.Key {
	if s.Op == api.Move {
		return sure(keys.Move(k, n))
	}
	return sure(keys.Narrow(k, n))
}

func (s *stepper) jump() {
	to := s.Code.At + s.C
	refuse(to < 0 || to > api.MaxCell, api.ErrRange)
	s.next.At = to
}

func (s *stepper) ask() int {
	if s.C == askKey {
		return oneIf(s.Regs[s.B].Is)
	}
	k := s.key(s.B)
	switch s.C {
	case askPerm:
		return k.Perm
	case askBase:
		return k.Base
	case askLen:
		return k.Len
	case askAt:
		return k.At
	}
	return k.Seal // askSeal, the one question that is left
}

func oneIf(so bool) int {
	if so {
		return 1
	}
	return 0
}

// call goes on by code, with data at hand. Both were sealed as one, so that nobody pairs them otherwise.
func (s *stepper) call(code, data api.Key) {
	refuse(code.Seal == 0 || code.Seal != data.Seal, api.ErrSealed)
	// Data by which one could run might be handed in as code, and so begin wherever it is At.
	refuse(!perm.Within(api.PExec, code.Perm) || perm.Within(api.PExec, data.Perm), api.ErrPerm)
	refuse(len(s.Stack) >= api.MaxDeep, api.ErrFull)
	s.Stack = append(s.Stack, api.Frame{Code: s.next, Data: s.Regs[dataReg]})
	code.Seal, data.Seal = 0, 0
	s.next = code
	s.Regs[dataReg] = api.Val{Is: true, Key: data}
}

func (s *stepper) back() {
	last := len(s.Stack) - 1
	if last < 0 {
		panic(halted{})
	}
	s.next = s.Stack[last].Code
	s.Regs[dataReg] = s.Stack[last].Data
	// Cut off alone, the frame would still lie in the room behind.
	s.Stack = fresh(s.Stack[:last])
}

func (s *stepper) clear() {
	for r := range s.Regs {
		if s.C>>r&1 == 1 {
			s.Regs[r] = api.Val{}
		}
	}
}

func (s *stepper) tell(n int) {
	refuse(len(s.Out) >= api.MaxOut, api.ErrFull)
	s.Out = append(s.Out, n)
}
