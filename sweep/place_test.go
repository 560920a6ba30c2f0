package sweep

import (
	"slices"
	"testing"

	"custodian/api"
)

// struck are keys for a cell from 200 on, ahead of 210.
var struck = []api.Key{
	{Base: 200, Len: 1}, {Perm: api.PAll, Len: 400, At: 400, Seal: 63}, {Perm: api.PExec, Base: 209, Len: 191, At: 3}, {Perm: api.PLoad, Base: 205, Len: 2, Seal: 1},
}

// unstruck are keys for none of these.
var unstruck = []api.Key{{}, {Base: 205}, {Perm: api.PAll, Len: 200, At: 205}, {Perm: api.PExec, Base: 210, Len: 190, At: 200, Seal: 2}}

func TestNoSuchKey(t *testing.T) {
	stays(t, rich(), 200, 10)
	stays(t, rich(), 200, 200)
	stays(t, api.Machine{}, 0, 400)
	stays(t, api.Machine{Mem: numbers(400), Stack: make([]api.Frame, 16), Out: told(100)}, 0, 400)
}

// A key at each place, alone.
func TestEachPlace(t *testing.T) {
	for _, p := range places(rich()) {
		for _, k := range struck {
			m := rich()
			p.put(&m, k)
			want := twin(m)
			p.take(&want)
			sweeps(t, m, 200, 10, want, 1)
		}
		for _, k := range unstruck {
			m := rich()
			p.put(&m, k)
			stays(t, m, 200, 10)
		}
	}
}

// All cells of the greatest memory, and all frames of the deepest machine.
func TestEachPlaceOfTheGreatestMachine(t *testing.T) {
	for i, p := range places(api.Machine{Mem: numbers(400), Stack: frames(16)}) {
		m := api.Machine{Mem: numbers(400), Stack: frames(16), Out: told(100)}
		p.put(&m, struck[i%len(struck)])
		want := twin(m)
		p.take(&want)
		sweeps(t, m, 200, 10, want, 1)
	}
}

// A key at each two places: both are struck, and counted, also if they are the same one.
func TestEachTwoPlaces(t *testing.T) {
	l := places(rich())
	for i, a := range l {
		for j, b := range l[:i] {
			m := rich()
			a.put(&m, struck[i%len(struck)])
			b.put(&m, struck[j%len(struck)])
			want := twin(m)
			a.take(&want)
			b.take(&want)
			sweeps(t, m, 200, 10, want, 2)
		}
	}
}

// Beside a key that is struck another one stays.
func TestOneOfTwoPlaces(t *testing.T) {
	l := places(rich())
	for i, a := range l {
		for j, b := range l {
			if i == j {
				continue
			}
			m := rich()
			a.put(&m, struck[i%len(struck)])
			b.put(&m, unstruck[j%len(unstruck)])
			want := twin(m)
			a.take(&want)
			sweeps(t, m, 200, 10, want, 1)
		}
	}
}

// From no place to all of them, in both directions.
func TestManyPlaces(t *testing.T) {
	for _, back := range []bool{false, true} {
		l := places(rich())
		if back {
			slices.Reverse(l)
		}
		m, want := rich(), rich()
		for i, p := range l {
			p.put(&m, struck[i%len(struck)])
			p.put(&want, api.Key{})
			p.take(&want)
			sweeps(t, m, 200, 10, want, i+1)
		}
	}
}

// The example of the map: a key for cells 5 and 6 is struck with cell 6. Each place is written out.
func TestWrittenOut(t *testing.T) {
	k := api.Key{Perm: 3, Base: 5, Len: 2, At: 9}
	other := api.Key{Perm: 3, Base: 7, Len: 2, At: 6}
	m := api.Machine{
		Code:  k,
		Mem:   []api.Val{{N: 6}, aKey(k), aKey(other), aKey(k)},
		Stack: []api.Frame{{Code: k, Data: aKey(other)}, {Code: other, Data: aKey(k)}, {Code: k, Data: api.Val{N: 5}}},
		Out:   []int{6, 5},
	}
	m.Regs[0], m.Regs[1], m.Regs[6], m.Regs[7] = aKey(k), aKey(other), aNumber(6), aKey(k)
	got, n, e := Sweep(m, 6, 1)
	want := api.Machine{
		Mem:   []api.Val{{N: 6}, {}, aKey(other), {}},
		Stack: []api.Frame{{Data: aKey(other)}, {Code: other}, {Data: api.Val{N: 5}}},
		Out:   []int{6, 5},
	}
	want.Regs[1], want.Regs[6] = aKey(other), aNumber(6)
	if e != api.OK || n != 8 || !same(got, want) {
		t.Errorf("Sweep = %+v, %d, %d, want %+v, 8", got, n, e, want)
	}
	sweeps(t, m, 6, 1, want, 8)
	sweeps(t, m, 5, 1, want, 8)
	sweeps(t, m, 5, 2, want, 8)
}

// What a key leads to is not looked at: one that is struck lies in the memory, and nobody comes to it.
func TestKeysThatNobodyComesTo(t *testing.T) {
	m := api.Machine{Mem: []api.Val{{}, aKey(struck[0]), {}}}
	sweeps(t, m, 200, 10, api.Machine{Mem: make([]api.Val, 3)}, 1)
}

// A key that leads to one that is struck is not struck itself.
func TestKeysThatLeadToOneThatIsStruck(t *testing.T) {
	m := api.Machine{Mem: []api.Val{{}, aKey(struck[0]), {}}}
	m.Regs[2] = aKey(api.Key{Perm: api.PAll, Len: 3})
	want := twin(m)
	want.Mem[1] = api.Val{}
	sweeps(t, m, 200, 10, want, 1)
}

// What lies in the cells of the range is no key for them: it stays.
func TestWhatLiesInTheRangeStays(t *testing.T) {
	m := api.Machine{Mem: numbers(30)}
	for at := 10; at < 20; at++ {
		m.Mem[at] = aKey(api.Key{Perm: api.PAll, Base: 20, Len: at - 10, At: at})
	}
	stays(t, m, 10, 10)
	m.Mem[25] = aKey(api.Key{Base: 12, Len: 1})
	want := twin(m)
	want.Mem[25] = api.Val{}
	sweeps(t, m, 10, 10, want, 1)
}
