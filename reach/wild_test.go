package reach

import (
	"slices"
	"testing"

	"custodian/api"
	"custodian/inst"
	"custodian/step"
)

// dice are numbers that look thrown, and are the same in each run.
type dice uint64

// upTo answers a number below n.
func (d *dice) upTo(n int) int {
	*d = *d*6364136223846793005 + 1442695040888963407
	return int(uint64(*d) >> 33 % uint64(n))
}

func pick[T any](d *dice, all ...T) T { return all[d.upTo(len(all))] }

// key answers a key that may be, and that has few cells, so that not all is come to at once.
func (d *dice) key() api.Key {
	k := api.Key{Perm: d.upTo(128) | pick(d, 0, 9), Base: d.upTo(50), Len: d.upTo(4), At: d.upTo(3)}
	switch d.upTo(40) {
	case 0:
		k.Base, k.Len = pick(d, 0, 1, 30, 63, 64, 300), pick(d, 1, 60, 64, 100)
	case 1:
		k.Base, k.Len = 400, 0
	}
	if d.upTo(3) == 0 {
		k.Seal = pick(d, 1, 2, 63)
	}
	return k
}

// val answers a value that may be, or, seldom, one that may not.
func (d *dice) val() api.Val {
	switch n := d.upTo(4000); {
	case n == 0:
		return aNumber(pick(d, 1<<31, -1<<32))
	case n == 1:
		return api.Val{Is: true, N: 1}
	case n == 2:
		return api.Val{Key: d.key(), N: pick(d, 0, 1<<31)}
	case n%3 == 0:
		return aNumber(n)
	}
	return aKey(d.key())
}

func (d *dice) machine() api.Machine {
	m := api.Machine{Code: d.key(), Out: told(pick(d, 0, 1, 100))}
	for range d.upTo(9) {
		m.Regs[d.upTo(8)] = d.val()
	}
	for range pick(d, 0, 1, 10, 50, 64, 100, 400) {
		m.Mem = append(m.Mem, d.val())
	}
	for range pick(d, 0, 0, 1, 2, 16, 17) {
		m.Stack = append(m.Stack, api.Frame{Code: d.key(), Data: d.val()})
	}
	return m
}

// model answers the keys that P24 says a machine has, read once more: as long as there is a key by which a new one is
// come to, all keys that are had are gone through again from the first one on.
func model(m api.Machine, deep bool) []api.Key {
	had := []api.Key{m.Code}
	has := func(v api.Val) bool {
		if !v.Is || slices.Contains(had, v.Key) {
			return false
		}
		had = append(had, v.Key)
		return true
	}
	for _, v := range m.Regs {
		has(v)
	}
	if deep {
		for _, f := range m.Stack {
			has(aKey(f.Code))
			has(f.Data)
		}
	}
	for more := true; more; {
		more = false
		for _, k := range had {
			if k.Perm&1 == 0 || k.Perm&8 == 0 || k.Seal != 0 && !deep {
				continue
			}
			for at, v := range m.Mem {
				more = isFor(k, at) && has(v) || more
			}
		}
	}
	return had
}

// checkModel holds all three calls against the model. It answers what Check does, and how many keys lie in cells alone.
func checkModel(t *testing.T, m api.Machine, deep bool, p int) (api.Errno, int) {
	t.Helper()
	if e := step.Check(m); e != api.OK {
		refused(t, m, e)
		return e, 0
	}
	want := model(m, deep)
	finds(t, m, deep, []int{p, 0, api.PLoad}, want...)
	bare := m
	bare.Mem = make([]api.Val, len(m.Mem))
	return api.OK, len(want) - len(model(bare, deep))
}

// Whatever it is given, the machine is answered as the model is.
func TestAsTheModelHasIt(t *testing.T) {
	d := dice(1)
	seen, far := map[api.Errno]int{}, 0
	for range 6000 {
		m := d.machine()
		for _, deep := range both {
			e, more := checkModel(t, m, deep, d.upTo(128))
			seen[e]++
			if more > 10 {
				far++
			}
		}
	}
	for _, e := range []api.Errno{api.OK, api.ErrArg, api.ErrLarge, api.ErrForm} {
		if seen[e] == 0 {
			t.Errorf("no machine was answered by %d: they are not wild enough", e)
		}
	}
	if far < 500 || seen[api.OK] < 5000 {
		t.Errorf("the machines are not wild enough: %v, %d", seen, far)
	}
}

// Nothing is lost by looking deep: what is told without it is told with it.
func TestDeepHasMore(t *testing.T) {
	d := dice(5)
	for range 2000 {
		m := d.machine()
		if step.Check(m) != api.OK {
			continue
		}
		p := d.upTo(128)
		plain, deep := ask(m, p, false), ask(m, p, true)
		if !within(plain.keys, deep.keys) || !within(plain.cells, deep.cells) || !within(plain.seals, deep.seals) {
			t.Fatalf("p %d: without deep %+v, with it %+v", p, plain, deep)
		}
	}
}

func within[T comparable](a, b []T) bool {
	for _, x := range a {
		if !slices.Contains(b, x) {
			return false
		}
	}
	return true
}

// inst answers an instruction that may be, as a cell.
func (d *dice) inst() api.Val {
	for {
		i := api.Inst{Op: d.upTo(23), A: d.upTo(8) * d.upTo(2), B: d.upTo(8) * d.upTo(2), C: d.upTo(12) - 4}
		if n, e := inst.Pack(i); e == api.OK {
			return aNumber(n)
		}
	}
}

// By no step anything is come to that was not before, for who looks deep: what a step opens counts for that one.
func TestStepsComeToNoMore(t *testing.T) {
	d := dice(9)
	steps := map[api.Errno]int{}
	for range 5000 {
		m := d.machine()
		if len(m.Mem) == 0 {
			continue
		}
		m.Code = api.Key{Perm: api.PExec, Len: 400, At: d.upTo(len(m.Mem))}
		m.Mem[m.Code.At] = d.inst()
		next, e := step.Step(m)
		steps[e]++
		if e != api.OK {
			continue
		}
		for _, p := range []int{0, api.PLoad, api.PStore, api.PExec, api.PTake, api.PPut, api.PSeal, api.POpen, d.upTo(128)} {
			was, is := ask(m, p, true), ask(next, p, true)
			if !within(is.cells, was.cells) || !within(is.seals, was.seals) {
				t.Fatalf("p %d: behind a step there are %v, %v, and ahead of it %v, %v", p, is.cells, is.seals, was.cells, was.seals)
			}
		}
	}
	if steps[api.OK] < 500 {
		t.Errorf("too few steps are done: %v", steps)
	}
}
