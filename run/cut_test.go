package run

import (
	"slices"
	"testing"

	"custodian/api"
)

// goers has machines that go on for some steps, or for ever.
func goers() []api.Machine {
	counter := start("add r1 r1 r2\nstore r1 r6 0\njump -2\nword 0")
	counter.Regs[2], counter.Regs[6] = aNumber(1), aKey(api.Key{Perm: api.PStore, Base: 3, Len: 1, At: 3})
	back := busy()
	back.Regs[0] = aNumber(3)
	teller := start("tell r1\njump -1")
	teller.Out = told(95)
	return []api.Machine{start("halt"), start("jump 0"), line(20), looper(7), busy(), back, counter, teller}
}

// A run that is cut in two comes to the same end: the machine is told as it is, and has all that it needs to go on.
func TestRunCutInTwo(t *testing.T) {
	for _, m := range goers() {
		for fuel := range 40 {
			for first := range fuel + 1 {
				checkCut(t, m, first, fuel-first)
			}
		}
		checkCut(t, m, 5000, 0)
		checkCut(t, m, 0, 5000)
		checkCut(t, m, 4999, 1)
		checkCut(t, m, 2500, 2500)
	}
}

// checkCut holds two runs, one gone on with behind the other one, against one run with the fuel of both.
func checkCut(t *testing.T, m api.Machine, first, second int) {
	t.Helper()
	want, all, why := Run(m, first+second)
	half, n, e := Run(m, first)
	got, more, e2 := Run(half, second)
	if n > first || more > second || e == api.OK || e2 == api.OK {
		t.Fatalf("fuel %d, %d: %d steps, %d, and %d steps, %d", first, second, n, e, more, e2)
	}
	if !same(got, want) || n+more != all {
		t.Fatalf("fuel %d, %d: cut in two %d and %d steps, and %+v\nin one %d steps, and %+v", first, second, n, more, got, all, want)
	}
	if e != api.ErrFuel && more != 0 {
		t.Fatalf("fuel %d, %d: behind the end (%d) there were %d steps more", first, second, e, more)
	}
	// An end that is no lack of fuel is met again, if there is fuel to look for it.
	if second > 0 && e2 != why || second == 0 && (e2 != api.ErrFuel || e != why) {
		t.Fatalf("fuel %d, %d: it ends by %d, then by %d, and in one by %d", first, second, e, e2, why)
	}
	ahead, _ := Places(m, first)
	behind, _ := Places(half, second)
	if whole, _ := Places(m, first+second); !slices.Equal(slices.Concat(ahead, behind), whole) {
		t.Fatalf("fuel %d, %d: places %v and %v, in one %v", first, second, ahead, behind, whole)
	}
}

// Cut in as many as there are steps, it does one at a time.
func TestRunStepByStep(t *testing.T) {
	for _, m := range goers() {
		now := m
		var places []int
		for fuel := range 60 {
			want, n, e := Run(m, fuel)
			if !same(now, want) || n != len(places) {
				t.Fatalf("fuel %d: one at a time %d steps, and %+v\nin one %d steps, %d, and %+v", fuel, len(places), now, n, e, want)
			}
			at := now.Code.At
			next, n, e := Run(now, 1)
			if n != 0 && n != 1 || (n == 1) != (e == api.ErrFuel) {
				t.Fatalf("with fuel for one: %d steps, %d", n, e)
			}
			if n == 0 && !same(next, now) {
				t.Fatalf("no step was done, but %+v\nis told of %+v", next, now)
			}
			if n == 1 {
				places = append(places, at)
			}
			now = next
		}
		if l, _ := Places(m, 60); !slices.Equal(l, places) {
			t.Fatalf("places %v, one at a time %v", l, places)
		}
	}
}

// What has ended stays so, however often it is gone on with.
func TestRunBehindItsEnd(t *testing.T) {
	for _, c := range endings() {
		now := c.m
		for range 3 {
			now, _, _ = Run(now, 5000)
			ends(t, now, 5000, c.m, nil, c.e)
		}
	}
}
