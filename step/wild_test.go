package step

import (
	"math"
	"testing"

	"custodian/api"
)

// dice are numbers that look thrown, and are the same in each run.
type dice uint64

// upTo answers a number below n.
func (d *dice) upTo(n int) int {
	*d = *d*6364136223846793005 + 1442695040888963407
	return int(uint64(*d) >> 33 % uint64(n))
}

func pick[T any](d *dice, all []T) T { return all[d.upTo(len(all))] }

var wildNumbers = []int{0, 1, -1, 2, 3, 5, 7, 12, 20, 39, 40, 63, 64, 399, 400, 401, -12, -400, api.MaxNumber, api.MinNumber}

var wildFields = []int{-1, 0, 1, 2, 5, 7, 12, 63, 64, 127, 128, 400, 401, math.MaxInt, math.MinInt, math.MaxInt - 400, 1 << 32}

// key answers a key that may be, or, seldom, whatever fields there are.
func (d *dice) key() api.Key {
	if d.upTo(3000) == 0 {
		return api.Key{Perm: pick(d, wildFields), Base: pick(d, wildFields), Len: pick(d, wildFields), At: pick(d, wildFields), Seal: pick(d, wildFields)}
	}
	base := d.upTo(60)
	k := api.Key{Perm: d.upTo(128) | d.upTo(128), Base: base, Len: d.upTo(100), At: base + d.upTo(60) - min(base, d.upTo(3))}
	if d.upTo(3) == 0 {
		k.Seal = 1 + d.upTo(3)
	}
	return k
}

func (d *dice) val() api.Val {
	switch d.upTo(2000) {
	case 0:
		return pick(d, wrongs).v
	case 1:
		return api.Val{Is: d.upTo(2) == 0, N: pick(d, wildFields), Key: d.key()}
	}
	if d.upTo(2) == 0 {
		return aKey(d.key())
	}
	return aNumber(pick(d, wildNumbers))
}

func (d *dice) inst() api.Inst {
	i := api.Inst{Op: d.upTo(23), A: d.upTo(8), B: d.upTo(8), C: d.upTo(8)}
	switch i.Op {
	case api.Halt, api.Back:
		return api.Inst{Op: i.Op}
	case api.Set, api.If:
		i.B = 0
	case api.Jump, api.Clear:
		i.A, i.B = 0, 0
	case api.Copy, api.Call:
		i.C = 0
	case api.Here, api.Tell:
		i.B, i.C = 0, 0
	case api.Ask:
		i.C = d.upTo(6)
	}
	return i
}

func (d *dice) machine() api.Machine {
	var m api.Machine
	for r := range m.Regs {
		m.Regs[r] = d.val()
	}
	for range 1 + d.upTo(60) {
		v := d.val()
		if d.upTo(2) == 0 {
			v = packed(d.inst())
		}
		m.Mem = append(m.Mem, v)
	}
	for range pick(d, []int{0, 1, 2, 15, 16, 16, 17}) {
		m.Stack = append(m.Stack, api.Frame{Code: d.key(), Data: d.val()})
	}
	m.Out = told(pick(d, []int{0, 1, 50, 99, 99, 100, 100, 101}))
	m.Code = d.key()
	if d.upTo(10) > 0 { // it has something to run
		m.Code = api.Key{Perm: m.Code.Perm&api.PAll | api.PExec, Len: 400, At: d.upTo(len(m.Mem))}
		m.Mem[m.Code.At] = packed(d.inst())
	}
	return m
}

// Whatever it is given, a step answers: a machine that may be, or an error and nothing beside it.
func TestStepAlwaysAnswers(t *testing.T) {
	d := dice(1)
	seen := map[api.Errno]int{}
	for range 40000 {
		m := d.machine()
		for range 20 {
			was := whole(m)
			next, e := Step(m)
			seen[e]++
			if !same(whole(m), was) {
				t.Fatalf("Step at %q changed %+v", atInst(m), m)
			}
			if wrong := Check(m); wrong != api.OK && e != wrong {
				t.Fatalf("Step(%+v) = %d, but Check of it %d", m, e, wrong)
			}
			if e != api.OK {
				if !same(next, api.Machine{}) || next.Mem != nil || next.Stack != nil || next.Out != nil {
					t.Fatalf("Step at %q = %+v, %d", atInst(m), next, e)
				}
				break
			}
			if wrong := Check(next); wrong != api.OK || next.Code.Seal != 0 && atInst(m) != "back" {
				t.Fatalf("Step at %q = %+v, of which Check = %d", atInst(m), next, wrong)
			}
			m = next
		}
	}
	for _, e := range []api.Errno{
		api.OK, api.ErrArg, api.ErrLarge, api.ErrForm, api.ErrFull, api.ErrTag, api.ErrSealed, api.ErrPerm, api.ErrRange, api.ErrZero, api.ErrHalt,
	} {
		if seen[e] == 0 {
			t.Errorf("no step answered %d: the machines are not wild enough", e)
		}
	}
}
