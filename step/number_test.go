package step

import (
	"testing"

	"custodian/api"
)

// regs calls do with each register as A, B and C, the same ones among them.
func regs(do func(a, b, c int)) {
	for a := range 8 {
		for b := range 8 {
			for c := range 8 {
				do(a, b, c)
			}
		}
	}
}

// someKey is a key that nothing of a machine of the tests has.
func someKey() api.Val {
	return aKey(api.Key{Perm: 91, Base: 33, Len: 44, At: 55})
}

func TestHalt(t *testing.T) {
	fails(t, ready(api.Inst{Op: api.Halt}), api.ErrHalt)
	fails(t, full12(api.Inst{Op: api.Halt}), api.ErrHalt)
}

// full12 is ready with as many frames and numbers told as may be.
func full12(i api.Inst) api.Machine {
	m := ready(i)
	m.Stack, m.Out = frames(16), told(100)
	return m
}

func TestSet(t *testing.T) {
	for a := range 8 {
		for c := -2048; c <= 2047; c += 13 {
			puts(t, ready(api.Inst{Op: api.Set, A: a, C: c}), a, aNumber(c))
		}
		for _, c := range []int{-2048, -2047, -1, 0, 1, 2046, 2047} {
			puts(t, ready(api.Inst{Op: api.Set, A: a, C: c}), a, aNumber(c))
			m := ready(api.Inst{Op: api.Set, A: a, C: c})
			m.Regs[a] = someKey()
			puts(t, m, a, aNumber(c))
		}
	}
}

func TestCopy(t *testing.T) {
	for _, v := range []api.Val{aNumber(0), aNumber(api.MaxNumber), aNumber(api.MinNumber), someKey(), aKey(api.Key{}), aKey(api.Key{Perm: 127, Len: 400, Seal: 63})} {
		for a := range 8 {
			for b := range 8 {
				m := ready(api.Inst{Op: api.Copy, A: a, B: b})
				m.Regs[b] = v
				puts(t, m, a, v)
				m.Regs[a] = someKey()
				m.Regs[b] = v
				puts(t, m, a, v)
			}
		}
	}
}

// reckonings has what is to come of two numbers.
var reckonings = []struct{ op, b, c, want int }{
	{api.Add, 2, 3, 5}, {api.Add, -2, 3, 1}, {api.Add, 0, 0, 0}, {api.Add, 1<<31 - 1, 1, -1 << 31}, {api.Add, -1 << 31, -1, 1<<31 - 1},
	{api.Add, 1<<31 - 1, 1<<31 - 1, -2}, {api.Add, -1 << 31, -1 << 31, 0}, {api.Add, 1<<31 - 1, -1 << 31, -1}, {api.Add, 1<<31 - 2, 1, 1<<31 - 1}, {api.Add, -1<<31 + 1, -1, -1 << 31},
	{api.Sub, 2, 3, -1}, {api.Sub, 3, 2, 1}, {api.Sub, -1 << 31, 1, 1<<31 - 1}, {api.Sub, 1<<31 - 1, -1, -1 << 31}, {api.Sub, 0, -1 << 31, -1 << 31},
	{api.Sub, -1 << 31, -1 << 31, 0}, {api.Sub, 1<<31 - 1, -1 << 31, -1}, {api.Sub, -1 << 31, 1<<31 - 1, 1}, {api.Sub, -1<<31 + 1, 1, -1 << 31},
	{api.Mul, 2, 3, 6}, {api.Mul, -2, 3, -6}, {api.Mul, 0, -1 << 31, 0}, {api.Mul, -1 << 31, -1, -1 << 31}, {api.Mul, 1 << 16, 1 << 15, -1 << 31}, {api.Mul, 1 << 16, 1 << 16, 0},
	{api.Mul, 1<<31 - 1, 1<<31 - 1, 1}, {api.Mul, -1 << 31, -1 << 31, 0}, {api.Mul, 1<<31 - 1, 2, -2}, {api.Mul, 46341, 46341, -2147479015},
	{api.Div, 7, 2, 3}, {api.Div, 7, -2, -3}, {api.Div, -7, 2, -3}, {api.Div, -7, -2, 3}, {api.Div, 0, 5, 0}, {api.Div, 2, 7, 0}, {api.Div, -2, 7, 0},
	{api.Div, -1 << 31, -1, -1 << 31}, {api.Div, -1 << 31, 1, -1 << 31}, {api.Div, 1<<31 - 1, -1, -1<<31 + 1}, {api.Div, 1<<31 - 1, -1 << 31, 0}, {api.Div, -1 << 31, 1<<31 - 1, -1},
	{api.Less, 2, 3, 1}, {api.Less, 3, 2, 0}, {api.Less, 3, 3, 0}, {api.Less, -1, 0, 1}, {api.Less, 0, -1, 0},
	{api.Less, -1 << 31, 1<<31 - 1, 1}, {api.Less, 1<<31 - 1, -1 << 31, 0}, {api.Less, -1 << 31, -1 << 31, 0}, {api.Less, -1 << 31, -1<<31 + 1, 1}, {api.Less, 1<<31 - 2, 1<<31 - 1, 1},
}

func TestReckoning(t *testing.T) {
	for _, r := range reckonings {
		regs(func(a, b, c int) {
			if b == c && r.b != r.c {
				return
			}
			m := ready(api.Inst{Op: r.op, A: a, B: b, C: c})
			m.Regs[a] = someKey() // what was there does not count, if it is none of both
			m.Regs[b], m.Regs[c] = aNumber(r.b), aNumber(r.c)
			puts(t, m, a, aNumber(r.want))
		})
	}
}

func TestReckoningOfOneRegister(t *testing.T) {
	for r := range 8 {
		for op, want := range map[int]int{api.Add: -14, api.Sub: 0, api.Mul: 49, api.Div: 1, api.Less: 0} {
			m := ready(api.Inst{Op: op, A: r, B: r, C: r})
			m.Regs[r] = aNumber(-7)
			puts(t, m, r, aNumber(want))
		}
	}
}

func TestDivByNought(t *testing.T) {
	regs(func(a, b, c int) {
		for _, n := range []int{0, 1, -1, 7, api.MaxNumber, api.MinNumber} {
			m := ready(api.Inst{Op: api.Div, A: a, B: b, C: c})
			m.Regs[b] = aNumber(n)
			m.Regs[c] = aNumber(0)
			fails(t, m, api.ErrZero)
		}
	})
}

// Both are WANTED as numbers: also where it would be divided by nought.
func TestKeysAreNotReckonedWith(t *testing.T) {
	for _, op := range []int{api.Add, api.Sub, api.Mul, api.Div, api.Less} {
		regs(func(a, b, c int) {
			m := ready(api.Inst{Op: op, A: a, B: b, C: c})
			m.Regs[c] = aNumber(0)
			m.Regs[b] = someKey()
			fails(t, m, api.ErrTag)
			m.Regs[b] = aNumber(0)
			m.Regs[c] = aKey(api.Key{})
			fails(t, m, api.ErrTag)
			m.Regs[b], m.Regs[c] = someKey(), someKey()
			fails(t, m, api.ErrTag)
		})
	}
}

// jumper answers a machine at the place at of 400 cells, and at i.
func jumper(at int, i api.Inst) api.Machine {
	m := api.Machine{Code: api.Key{Perm: api.PExec, Base: at, Len: 1, At: at}, Mem: cells(400), Stack: frames(1), Out: told(1)}
	m.Mem[at] = packed(i)
	return m
}

// lands wants the machine to go on at a place, and nothing else.
func lands(t *testing.T, m api.Machine, at int) {
	t.Helper()
	goes(t, m, func(w *api.Machine) { w.Code.At = at })
}

var ways = []struct {
	at, by int
	want   api.Errno
}{
	{0, 0, api.OK}, {0, 1, api.OK}, {0, 400, api.OK}, {0, 401, api.ErrRange}, {0, -1, api.ErrRange}, {0, -2048, api.ErrRange}, {0, 2047, api.ErrRange},
	{12, 0, api.OK}, {12, -12, api.OK}, {12, -13, api.ErrRange}, {12, 388, api.OK}, {12, 389, api.ErrRange}, {12, 1, api.OK}, {12, -1, api.OK}, {12, 2, api.OK},
	{200, 199, api.OK}, {200, 200, api.OK}, {200, 201, api.ErrRange}, {200, -200, api.OK}, {200, -199, api.OK}, {200, -201, api.ErrRange},
	{399, 0, api.OK}, {399, 1, api.OK}, {399, 2, api.ErrRange}, {399, -399, api.OK}, {399, -400, api.ErrRange}, {399, 2047, api.ErrRange}, {399, -2048, api.ErrRange},
}

func TestJump(t *testing.T) {
	for _, w := range ways {
		m := jumper(w.at, api.Inst{Op: api.Jump, C: w.by})
		if w.want != api.OK {
			fails(t, m, w.want)
			continue
		}
		lands(t, m, w.at+w.by)
	}
	for by := -2048; by <= 2047; by++ {
		m := jumper(100, api.Inst{Op: api.Jump, C: by})
		if by < -100 || by > 300 {
			fails(t, m, api.ErrRange)
			continue
		}
		lands(t, m, 100+by)
	}
}

func TestIf(t *testing.T) {
	for _, w := range ways {
		for a := range 8 {
			m := jumper(w.at, api.Inst{Op: api.If, A: a, C: w.by})
			lands(t, m, w.at+1) // it is 0: where it would lead does not count
			m.Regs[a] = someKey()
			fails(t, m, api.ErrTag) // nor does it here
			for _, n := range []int{1, -1, 2, 256, 1 << 16, api.MaxNumber, api.MinNumber} {
				m.Regs[a] = aNumber(n)
				if w.want != api.OK {
					fails(t, m, w.want)
					continue
				}
				lands(t, m, w.at+w.by)
			}
		}
	}
}

// One register alone counts.
func TestIfAsksItsRegister(t *testing.T) {
	for a := range 8 {
		m := jumper(50, api.Inst{Op: api.If, A: a, C: 30})
		for r := range m.Regs {
			m.Regs[r] = aNumber(r + 1)
		}
		lands(t, m, 80)
		m.Regs[a] = aNumber(0)
		lands(t, m, 51)
		for r := range m.Regs {
			m.Regs[r] = someKey()
		}
		m.Regs[a] = aNumber(0)
		lands(t, m, 51)
		m.Regs[a] = aNumber(9)
		lands(t, m, 80)
	}
}

func TestAsk(t *testing.T) {
	k := api.Key{Perm: 91, Base: 33, Len: 44, At: 55, Seal: 61}
	asked := []int{1, 91, 33, 44, 55, 61}
	least := []int{1, 0, 0, 0, 0, 0}
	greatest := []int{1, 127, 0, 400, 400, 63}
	behind := []int{1, 0, 400, 0, 0, 0}
	for a := range 8 {
		for b := range 8 {
			for c := range 6 {
				m := ready(api.Inst{Op: api.Ask, A: a, B: b, C: c})
				m.Regs[b] = aKey(k)
				puts(t, m, a, aNumber(asked[c]))
				m.Regs[b] = aKey(api.Key{})
				puts(t, m, a, aNumber(least[c]))
				m.Regs[b] = aKey(api.Key{Perm: 127, Len: 400, At: 400, Seal: 63})
				puts(t, m, a, aNumber(greatest[c]))
				m.Regs[b] = aKey(api.Key{Base: 400})
				puts(t, m, a, aNumber(behind[c]))
			}
		}
	}
}

func TestAskOfNumbers(t *testing.T) {
	for a := range 8 {
		for b := range 8 {
			for _, n := range []int{0, 1, -1, api.MaxNumber, api.MinNumber} {
				for c := range 6 {
					m := ready(api.Inst{Op: api.Ask, A: a, B: b, C: c})
					m.Regs[a] = someKey()
					m.Regs[b] = aNumber(n)
					if c == 0 {
						puts(t, m, a, aNumber(0))
						continue
					}
					fails(t, m, api.ErrTag)
				}
			}
		}
	}
}

// The key that it answers is at the instruction itself, not behind it.
func TestHere(t *testing.T) {
	for a := range 8 {
		m := ready(api.Inst{Op: api.Here, A: a})
		puts(t, m, a, aKey(api.Key{Perm: api.PExec + api.PLoad, Base: 10, Len: 5, At: place}))
		m.Regs[a] = someKey()
		puts(t, m, a, aKey(m.Code))
		m.Code = api.Key{Perm: 127, Len: 400, At: place}
		puts(t, m, a, aKey(api.Key{Perm: 127, Len: 400, At: place}))
		puts(t, jumper(399, api.Inst{Op: api.Here, A: a}), a, aKey(api.Key{Perm: api.PExec, Base: 399, Len: 1, At: 399}))
	}
}

func TestClear(t *testing.T) {
	for c := range 256 {
		m := ready(api.Inst{Op: api.Clear, C: c})
		m.Regs[0], m.Regs[4], m.Regs[7] = someKey(), aKey(api.Key{Perm: 127, Len: 400, Seal: 9}), aKey(api.Key{})
		goes(t, m, func(w *api.Machine) {
			for r, bit := range []int{1, 2, 4, 8, 16, 32, 64, 128} {
				if c/bit%2 == 1 {
					w.Regs[r] = api.Val{}
				}
			}
		})
	}
}

func TestClearWrittenOut(t *testing.T) {
	m := ready(api.Inst{Op: api.Clear})
	goes(t, m, func(*api.Machine) {})
	m = ready(api.Inst{Op: api.Clear, C: 255})
	goes(t, m, func(w *api.Machine) { w.Regs = [8]api.Val{} })
	m = ready(api.Inst{Op: api.Clear, C: 128})
	puts(t, m, 7, aNumber(0))
	m = ready(api.Inst{Op: api.Clear, C: 1})
	puts(t, m, 0, aNumber(0))
	m = ready(api.Inst{Op: api.Clear, C: 5})
	goes(t, m, func(w *api.Machine) { w.Regs[0], w.Regs[2] = api.Val{}, api.Val{} })
}

func TestTell(t *testing.T) {
	for a := range 8 {
		for _, n := range []int{0, 1, -1, api.MaxNumber, api.MinNumber} {
			for _, many := range []int{0, 1, 50, 98, 99} {
				m := ready(api.Inst{Op: api.Tell, A: a})
				m.Regs[a] = aNumber(n)
				m.Out = told(many)
				goes(t, m, func(w *api.Machine) { w.Out = append(w.Out, n) })
			}
			m := full12(api.Inst{Op: api.Tell, A: a})
			m.Regs[a] = aNumber(n)
			fails(t, m, api.ErrFull)
		}
	}
}

// A key is not told, and that it is one counts ahead of how many were told.
func TestTellOfKeys(t *testing.T) {
	for a := range 8 {
		for _, many := range []int{0, 99, 100} {
			for _, v := range []api.Val{someKey(), aKey(api.Key{}), aKey(api.Key{Seal: 3})} {
				m := ready(api.Inst{Op: api.Tell, A: a})
				m.Out = told(many)
				m.Regs[a] = v
				fails(t, m, api.ErrTag)
			}
		}
	}
}

// From none told on to as many as may be, and then one more.
func TestTellsBehindEachOther(t *testing.T) {
	m := ready(api.Inst{Op: api.Tell, A: 5})
	m.Out = nil
	for n := range 100 {
		m.Regs[5] = aNumber(-n)
		next, e := Step(m)
		if e != api.OK || len(next.Out) != n+1 || next.Out[n] != -n || next.Out[0] != 0 {
			t.Fatalf("the number %d: %d, %v", n, e, next.Out)
		}
		next.Code.At = place
		m = next
	}
	fails(t, m, api.ErrFull)
}
