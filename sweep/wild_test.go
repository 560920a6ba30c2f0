package sweep

import (
	"testing"

	"custodian/api"
	"custodian/inst"
	"custodian/reach"
	"custodian/step"
)

// dice are numbers that look thrown, and are the same in each run.
type dice uint64

// upTo answers a number below n.
func (d *dice) upTo(n int) int {
	*d = *d*6364136223846793005 + 1442695040888963407
	return int(uint64(*d) >> 33 % uint64(n))
}

func pick[T any](d *dice, all ...T) T { return all[d.upTo(len(all))] }

// key answers a key that may be.
func (d *dice) key() api.Key {
	k := api.Key{Perm: d.upTo(128) | pick(d, 0, 9), Base: d.upTo(100), Len: d.upTo(8), At: d.upTo(100)}
	switch d.upTo(20) {
	case 0:
		k.Base, k.Len = pick(d, 0, 1, 30, 63, 64, 300), pick(d, 1, 60, 64, 100)
	case 1:
		k.Base, k.Len = 400, 0
	}
	if d.upTo(3) == 0 {
		k.Seal = pick(d, 1, 2, 63)
	}
	return k
}

// val answers a value that may be, or, seldom, one that may not.
func (d *dice) val() api.Val {
	switch n := d.upTo(6000); {
	case n == 0:
		return aNumber(pick(d, 1<<31, -1<<32))
	case n == 1:
		return api.Val{Is: true, N: 1}
	case n == 2:
		return api.Val{Key: d.key(), N: pick(d, 0, 1<<31)}
	case n%3 == 0:
		return aNumber(n)
	}
	return aKey(d.key())
}

func (d *dice) machine() api.Machine {
	m := api.Machine{Code: d.key(), Out: told(pick(d, 0, 1, 100))}
	for range d.upTo(9) {
		m.Regs[d.upTo(8)] = d.val()
	}
	for range pick(d, 0, 1, 10, 50, 64, 100, 400) {
		m.Mem = append(m.Mem, d.val())
	}
	for range pick(d, 0, 0, 1, 2, 16, 17) {
		m.Stack = append(m.Stack, api.Frame{Code: d.key(), Data: d.val()})
	}
	return m
}

// cells answers cells that may be swept, or, seldom, such as may not.
func (d *dice) cells() cells {
	switch d.upTo(30) {
	case 0:
		return pick(d, bad...)
	case 1:
		return pick(d, good...)
	}
	return cells{d.upTo(120), d.upTo(20)}
}

// model answers what P25 says, read once more: all cells of the range, one by one, are taken from all places.
func model(m api.Machine, c cells) (api.Machine, int) {
	m = twin(m)
	many := 0
	value := func(v *api.Val) {
		if v.Is && meets(v.Key, c.base, c.n) {
			*v = aNumber(0)
			many++
		}
	}
	key := func(k *api.Key) {
		if meets(*k, c.base, c.n) {
			*k = api.Key{}
			many++
		}
	}
	for i := range m.Stack {
		value(&m.Stack[i].Data)
		key(&m.Stack[i].Code)
	}
	for at := range m.Mem {
		value(&m.Mem[at])
	}
	key(&m.Code)
	for r := range m.Regs {
		value(&m.Regs[r])
	}
	return m, many
}

// Whatever it is given, the machine is answered as the model is.
func TestAsTheModelHasIt(t *testing.T) {
	d := dice(1)
	seen, none, much := map[api.Errno]int{}, 0, 0
	for range 20000 {
		m, c := d.machine(), d.cells()
		if e := step.Check(m); e != api.OK {
			refused(t, m, c.base, c.n, e)
			seen[e]++
			continue
		}
		if c.base < 0 || c.n < 0 || c.base > 400 || c.n > 400 || c.base+c.n > 400 {
			refused(t, m, c.base, c.n, api.ErrArg)
			continue
		}
		want, many := model(m, c)
		sweeps(t, m, c.base, c.n, want, many)
		seen[api.OK]++
		if many == 0 {
			none++
		}
		if many > 10 {
			much++
		}
	}
	for _, e := range []api.Errno{api.OK, api.ErrArg, api.ErrLarge, api.ErrForm} {
		if seen[e] == 0 {
			t.Errorf("no machine was answered by %d: they are not wild enough", e)
		}
	}
	if none < 500 || much < 500 || seen[api.OK] < 10000 {
		t.Errorf("the machines are not wild enough: %v, %d, %d", seen, none, much)
	}
}

// inst answers an instruction that may be, as a cell.
func (d *dice) inst() api.Val {
	for {
		i := api.Inst{Op: 1 + d.upTo(22), A: d.upTo(8), B: d.upTo(8), C: d.upTo(12) - 4}
		if n, e := inst.Pack(i); e == api.OK {
			return aNumber(n)
		}
	}
}

// What was taken away is out of reach for good: for nobody, however deep one looks, and by no step.
func TestWhatWasTakenAwayIsOutOfReach(t *testing.T) {
	d := dice(7)
	steps := 0
	for range 3000 {
		m, c := d.machine(), cells{d.upTo(60), 1 + d.upTo(8)}
		swept, _, e := Sweep(m, c.base, c.n)
		if e != api.OK || len(swept.Mem) == 0 {
			continue
		}
		for range 20 {
			checkOutOfReach(t, swept, c)
			// It runs by a key for the one cell that it is at, so that it has something to run, and no other one more.
			at := d.upTo(len(swept.Mem))
			if at >= c.base && at < c.base+c.n {
				continue
			}
			swept.Code = api.Key{Perm: api.PExec, Base: at, Len: 1, At: at}
			swept.Mem[at] = d.inst()
			if next, e := step.Step(swept); e == api.OK {
				swept = next
				steps++
			}
		}
	}
	if steps < 5000 {
		t.Errorf("too few steps are done: %d", steps)
	}
}

func checkOutOfReach(t *testing.T, m api.Machine, c cells) {
	t.Helper()
	if has, e := Has(m, c.base, c.n); has || e != api.OK {
		t.Fatalf("Has from %d on, %d cells = %t, %d\nof %+v", c.base, c.n, has, e, m)
	}
	l, _ := reach.Cells(m, 0, true)
	seals, _ := reach.Seals(m, 0, true)
	for _, at := range append(l, seals...) {
		if at >= c.base && at < c.base+c.n {
			t.Fatalf("from %d on, %d cells: %d is come to\nof %+v", c.base, c.n, at, m)
		}
	}
}
