package run

import (
	"slices"
	"testing"

	"custodian/api"
	"custodian/inst"
	"custodian/step"
)

// dice are numbers that look thrown, and are the same in each run.
type dice uint64

// upTo answers a number below n.
func (d *dice) upTo(n int) int {
	*d = *d*6364136223846793005 + 1442695040888963407
	return int(uint64(*d) >> 33 % uint64(n))
}

func pick[T any](d *dice, all ...T) T { return all[d.upTo(len(all))] }

// key answers a key that may be.
func (d *dice) key() api.Key {
	k := api.Key{Perm: d.upTo(128) | d.upTo(128), Base: d.upTo(20), Len: d.upTo(60), At: d.upTo(40)}
	if d.upTo(2) == 0 {
		k.Seal = 1 + d.upTo(2)
	}
	return k
}

// val answers a value that may be, or, seldom, one that may not.
func (d *dice) val() api.Val {
	switch n := d.upTo(3000); {
	case n == 0:
		return aNumber(pick(d, 1<<31, -1<<32))
	case n == 1:
		return api.Val{Is: true, N: 1}
	case n%2 == 0:
		return aKey(d.key())
	}
	return aNumber(pick(d, 0, 1, -1, 2, 5, 20, api.MaxNumber, api.MinNumber))
}

// cell answers an instruction, as a rule.
func (d *dice) cell() api.Val {
	if d.upTo(15) == 0 {
		return d.val()
	}
	for {
		i := api.Inst{Op: d.upTo(23), A: d.upTo(8) * d.upTo(2), B: d.upTo(8) * d.upTo(2), C: d.upTo(12) - 4}
		if n, e := inst.Pack(i); e == api.OK {
			return aNumber(n)
		}
	}
}

func (d *dice) machine() api.Machine {
	var m api.Machine
	for r := range m.Regs {
		m.Regs[r] = d.val()
	}
	for range 1 + d.upTo(40) {
		m.Mem = append(m.Mem, d.cell())
	}
	for range pick(d, 0, 0, 1, 2, 14, 16, 17) {
		m.Stack = append(m.Stack, api.Frame{Code: d.key(), Data: d.val()})
	}
	m.Out = told(pick(d, 0, 0, 1, 97, 99, 100, 101))
	m.Code = api.Key{Perm: api.PExec, Len: len(m.Mem), At: d.upTo(len(m.Mem))}
	return m
}

// model answers what P23 says, read once more: the machines that there are, one behind the other, and why there is no other one.
func model(m api.Machine, fuel int) ([]api.Machine, api.Errno) {
	all := []api.Machine{m}
	for {
		if len(all)-1 == fuel {
			return all, api.ErrFuel
		}
		next, e := step.Step(all[len(all)-1])
		if e != api.OK {
			return all, e
		}
		all = append(all, next)
	}
}

// checkModel holds a run against the model, and tells by what it ended.
func checkModel(t *testing.T, m api.Machine, fuel int) api.Errno {
	t.Helper()
	if fuel < 0 || fuel > 5000 {
		refused(t, m, fuel, api.ErrArg)
		return api.ErrArg
	}
	if e := step.Check(m); e != api.OK {
		refused(t, m, fuel, e)
		return e
	}
	all, why := model(m, fuel)
	var places []int
	for _, ahead := range all[:len(all)-1] {
		places = append(places, ahead.Code.At)
	}
	ends(t, m, fuel, all[len(all)-1], places, why)
	return why
}

// Whatever it is given, a run answers, and as the steps do of which it is made.
func TestRunAsStepsDo(t *testing.T) {
	d := dice(1)
	seen := map[api.Errno]int{}
	for range 20000 {
		seen[checkModel(t, d.machine(), pick(&d, -1, 0, 1, 2, 3, 5, 8, 20, 60, 200, 5001))]++
	}
	for range 50 {
		seen[checkModel(t, d.machine(), pick(&d, 4999, 5000))]++
	}
	for _, e := range []api.Errno{
		api.ErrArg, api.ErrLarge, api.ErrForm, api.ErrFull, api.ErrTag, api.ErrSealed, api.ErrPerm, api.ErrRange, api.ErrZero, api.ErrFuel, api.ErrHalt,
	} {
		if seen[e] == 0 {
			t.Errorf("no run ended by %d: the machines are not wild enough", e)
		}
	}
	if t.Failed() || seen[api.OK] != 0 {
		t.Error(seen)
	}
}

// Of one machine each fuel is a run that goes on from the one with less.
func TestRunWithEachFuel(t *testing.T) {
	d := dice(7)
	for range 200 {
		m := d.machine()
		var before []int
		for fuel := range 30 {
			checkModel(t, m, fuel)
			places, _ := Places(m, fuel)
			if len(places) < len(before) || !slices.Equal(places[:len(before)], before) {
				t.Fatalf("fuel %d: places %v, with one less %v", fuel, places, before)
			}
			before = places
		}
	}
}
