package run

import (
	"math"
	"slices"
	"strings"
	"testing"

	"custodian/api"
)

func TestFuelThatMayNotBe(t *testing.T) {
	for _, fuel := range wrongFuels {
		for _, m := range []api.Machine{{}, start("halt"), start("jump 0"), start("set r1 1\nhalt"), start("word 5"), full()} {
			refused(t, m, fuel, api.ErrArg)
		}
	}
}

// full answers a machine that has as much as may be of everything, and goes round.
func full() api.Machine {
	m := start("jump 0")
	m.Code.Len = 400
	for r := range m.Regs {
		m.Regs[r] = aKey(api.Key{Perm: 127, Base: 400, At: 400, Seal: 63})
	}
	for at := 1; at < 400; at++ {
		m.Mem = append(m.Mem, aNumber(api.MinNumber+at))
	}
	m.Stack, m.Out = frames(16), told(100)
	return m
}

func TestWithFuelForNothingNothingIsDone(t *testing.T) {
	sealed := start("halt")
	sealed.Code.Seal = 1
	for _, m := range []api.Machine{{}, start("halt"), start("back"), start("jump 0"), start("word 5"), sealed, full()} {
		ends(t, m, 0, m, nil, api.ErrFuel)
	}
}

// What goes round does as many steps as there is fuel for, and no more.
func TestRoundAndRound(t *testing.T) {
	fuels := append(upTo(300), 999, 1000, 1001, 2500, 4095, 4096, 4097, 4998, 4999, 5000)
	for _, fuel := range fuels {
		m := start("jump 0")
		ends(t, m, fuel, m, make([]int, fuel), api.ErrFuel)
	}
	for _, fuel := range []int{0, 1, 2, 5000} {
		m := full()
		ends(t, m, fuel, m, make([]int, fuel), api.ErrFuel)
	}
}

// Two cells go round, so both the counter and where it stops hang on how many steps there were.
func TestRoundAndRoundWithACounter(t *testing.T) {
	for _, fuel := range []int{0, 1, 2, 3, 4, 5, 99, 100, 101, 4998, 4999, 5000} {
		m := start("add r1 r1 r2\njump -1")
		m.Regs[2] = aNumber(1)
		want := twin(m)
		want.Regs[1] = aNumber((fuel + 1) / 2)
		want.Code.At = fuel % 2
		places := make([]int, fuel)
		for i := range places {
			places[i] = i % 2
		}
		ends(t, m, fuel, want, places, api.ErrFuel)
	}
}

// line answers a machine that does n steps straight on, of which each adds 1, and then halts.
func line(n int) api.Machine {
	m := start(strings.Repeat("add r1 r1 r2\n", n) + "halt")
	m.Regs[2] = aNumber(1)
	return m
}

// lineAt answers that machine behind so many of its steps.
func lineAt(n, done int) api.Machine {
	m := line(n)
	m.Regs[1], m.Code.At = aNumber(done), done
	return m
}

// With fuel for just the steps that are done nobody has seen yet that there are no more.
func TestHaltsBehindSomeSteps(t *testing.T) {
	for n := range 40 {
		for fuel := range n + 1 {
			ends(t, line(n), fuel, lineAt(n, fuel), upTo(fuel), api.ErrFuel)
		}
		for _, fuel := range []int{n + 1, n + 2, n + 3, 100, 4999, 5000} {
			ends(t, line(n), fuel, lineAt(n, n), upTo(n), api.ErrHalt)
		}
	}
}

// looper answers a machine that goes round so often, three steps each time, and halts behind 3*n + 1 steps.
func looper(n int) api.Machine {
	m := start("set r2 1\nadd r3 r3 r2\nsub r1 r1 r2\nif r1 -2\nhalt")
	m.Regs[1] = aNumber(n)
	return m
}

// At the end of what fuel may be: 4999 steps are done and the halt is seen with the last of the fuel, or it is not.
func TestHaltsBehindManySteps(t *testing.T) {
	for _, n := range []int{1, 2, 3, 33, 1000, 1665, 1666} {
		all := 3*n + 1
		places := []int{0}
		for range n {
			places = append(places, 1, 2, 3)
		}
		halted := looper(n)
		halted.Regs[1], halted.Regs[2], halted.Regs[3], halted.Code.At = aNumber(0), aNumber(1), aNumber(n), 4
		for _, fuel := range []int{all + 1, all + 2, 5000} {
			if fuel <= 5000 {
				ends(t, looper(n), fuel, halted, places, api.ErrHalt)
			}
		}
		ends(t, looper(n), all, halted, places, api.ErrFuel)
		before := twin(halted)
		before.Code.At = 3
		ends(t, looper(n), all-1, before, places[:all-1], api.ErrFuel)
	}
	if l, e := Places(looper(1667), 5000); e != api.OK || len(l) != 5000 {
		t.Errorf("Places = %d of them, %d", len(l), e)
	}
}

// As the example of the document has it: three times round, eight steps.
func TestWrittenOut(t *testing.T) {
	m := start("set r1 3\nset r2 1\nloop:\nsub r1 r1 r2\nif r1 loop\nhalt")
	places := []int{0, 1, 2, 3, 2, 3, 2, 3}
	regs := [][2]int{{0, 0}, {3, 0}, {3, 1}, {2, 1}, {2, 1}, {1, 1}, {1, 1}, {0, 1}, {0, 1}}
	for fuel := range 12 {
		done, why := fuel, api.ErrFuel
		if fuel > 8 {
			done, why = 8, api.ErrHalt
		}
		want := twin(m)
		want.Regs[1], want.Regs[2] = aNumber(regs[done][0]), aNumber(regs[done][1])
		want.Code.At = append(slices.Clone(places), 4)[done]
		ends(t, m, fuel, want, places[:done], why)
	}
}

// wrongs has machines that may not be, each reason of chapter 9 among them, with its error.
func wrongs() []ending {
	form := api.Val{Is: true, N: 1}
	made := func(name, text string, e api.Errno, change func(m *api.Machine)) ending {
		m := start(text)
		change(&m)
		return ending{name, m, e}
	}
	return []ending{
		made("register, number", "halt", api.ErrArg, func(m *api.Machine) { m.Regs[7] = aNumber(1 << 31) }),
		made("register, form", "jump 0", api.ErrForm, func(m *api.Machine) { m.Regs[0] = form }),
		made("code", "halt", api.ErrArg, func(m *api.Machine) { m.Code.Len = 401 }),
		made("code, nowhere", "halt", api.ErrArg, func(m *api.Machine) { m.Code.At = math.MinInt }),
		made("memory, large", "halt", api.ErrLarge, func(m *api.Machine) { m.Mem = append(m.Mem, make([]api.Val, 400)...) }),
		made("memory, far", "jump 0", api.ErrLarge, func(m *api.Machine) { m.Mem = append(m.Mem, make([]api.Val, 1<<16)...) }),
		made("memory, number", "halt", api.ErrArg, func(m *api.Machine) { m.Mem[0] = aNumber(math.MinInt) }),
		made("memory, form", "jump 0\nhalt", api.ErrForm, func(m *api.Machine) { m.Mem[1] = form }),
		made("frames, many", "halt", api.ErrLarge, func(m *api.Machine) { m.Stack = frames(17) }),
		made("frame, code", "back", api.ErrArg, func(m *api.Machine) { m.Stack = []api.Frame{{Code: api.Key{Seal: 64}}} }),
		made("frame, data", "back", api.ErrForm, func(m *api.Machine) { m.Stack = []api.Frame{{Data: form}} }),
		made("told, many", "tell r1", api.ErrLarge, func(m *api.Machine) { m.Out = told(101) }),
		made("told, number", "word 5", api.ErrArg, func(m *api.Machine) { m.Out = []int{1, 2, math.MaxInt} }),
		made("two, form first", "halt", api.ErrForm, func(m *api.Machine) { m.Regs[3], m.Stack = form, frames(17) }),
		made("two, large first", "halt", api.ErrLarge, func(m *api.Machine) { m.Stack, m.Out = frames(17), []int{math.MaxInt} }),
	}
}

// Fuel is looked at first, then the machine, and then alone whether there is fuel for a step, or what comes of it.
func TestMachinesThatMayNotBe(t *testing.T) {
	for _, w := range wrongs() {
		t.Run(w.name, func(t *testing.T) {
			for _, fuel := range goodFuels {
				refused(t, w.m, fuel, w.e)
			}
			for _, fuel := range wrongFuels {
				refused(t, w.m, fuel, api.ErrArg)
			}
		})
	}
}

// A loop over steps may be left at any time, and gone over again from the beginning.
func TestStepsMayBeLeft(t *testing.T) {
	all := steps(line(3), 10)
	for stop := range 4 {
		seen := 0
		for now, e := range all {
			if now.Code.At != seen || (e == api.OK) != (seen < 3) {
				t.Fatalf("ahead of step %d it is at %d, %d", seen, now.Code.At, e)
			}
			if seen == stop {
				break
			}
			seen++
		}
		if seen != stop {
			t.Errorf("left behind %d steps, not %d", seen, stop)
		}
	}
}
