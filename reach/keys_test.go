package reach

import (
	"slices"
	"testing"

	"custodian/api"
)

// taker answers a key for n cells, by which the keys in them are come to.
func taker(base, n int) api.Key {
	return api.Key{Perm: api.PLoad + api.PTake, Base: base, Len: n, At: base}
}

// leaf answers a key by which nothing more is come to. All of them differ.
func leaf(i int) api.Key { return api.Key{Perm: api.PStore, Base: i, Len: 1 + i%3, At: 5} }

// sealed answers k by a seal.
func sealed(k api.Key, by int) api.Key {
	k.Seal = by
	return k
}

// A machine of zeros has Code, a key that is all 0, and can do nothing by it.
func TestZeros(t *testing.T) {
	for _, deep := range both {
		for _, m := range []api.Machine{{}, {Mem: []api.Val{}, Stack: []api.Frame{}, Out: []int{}}, {Mem: make([]api.Val, 400)}, {Out: make([]int, 100)}} {
			l, e := Keys(m, deep)
			if e != api.OK || len(l) != 1 || l[0] != (api.Key{}) {
				t.Errorf("Keys, deep %t = %+v, %d", deep, l, e)
			}
			for _, p := range append(allowed(), beyond...) {
				checkPlaces(t, m, p, deep, nil, nil)
			}
		}
		// Its frames have keys that are all 0 as well: it is still one.
		finds(t, api.Machine{Stack: make([]api.Frame, 16)}, deep, some, api.Key{})
	}
}

func TestKeysInEachRegister(t *testing.T) {
	for r := range 8 {
		for _, k := range []api.Key{{}, leaf(3), sealed(leaf(3), 7), {Perm: 127, Len: 400, At: 400, Seal: 63}, {Base: 400, At: 9}} {
			m := holder(12)
			m.Regs[r] = aKey(k)
			findsAlways(t, m, running, k)
		}
	}
	var m api.Machine
	m.Mem = numbers(30)
	want := []api.Key{{}}
	for r := range m.Regs {
		m.Regs[r] = aKey(leaf(r))
		want = append(want, leaf(r))
		findsAlways(t, m, want...)
	}
}

// What is in a register as a number is no key, nor is what a number has as its key: nothing.
func TestNumbersAreNoKeys(t *testing.T) {
	m := holder(12)
	for r := range m.Regs {
		m.Regs[r] = aNumber(r)
	}
	findsAlways(t, m, running)
	m.Regs[3] = aKey(taker(0, 12))
	findsAlways(t, m, running, taker(0, 12))
}

func TestCode(t *testing.T) {
	for _, k := range []api.Key{{}, leaf(3), sealed(leaf(3), 7), {Perm: 127, Len: 400, At: 400}, {Base: 400, At: 9}} {
		findsAlways(t, api.Machine{Code: k, Mem: numbers(12)}, k)
	}
	m := holder(12)
	m.Mem[3] = aKey(leaf(1))
	m.Code = taker(3, 1)
	findsAlways(t, m, taker(3, 1), leaf(1))
	m.Code = sealed(taker(3, 1), 9)
	finds(t, m, false, some, m.Code)
	finds(t, m, true, some, m.Code, leaf(1))
	m.Code = api.Key{Perm: api.PExec + api.PLoad + api.PTake, Base: 3, Len: 1, At: 0}
	findsAlways(t, m, m.Code, leaf(1))
}

// Keys in frames are a machine's only if one looks deep.
func TestFrames(t *testing.T) {
	for n := range 17 {
		m := holder(12)
		m.Stack = make([]api.Frame, n)
		want := []api.Key{running}
		for i := range n {
			m.Stack[i] = api.Frame{Code: leaf(i), Data: aNumber(i)}
			want = append(want, leaf(i))
		}
		finds(t, m, false, some, running)
		finds(t, m, true, some, want...)
		for i := range n {
			m.Stack[i].Data = aKey(leaf(100 + i))
			want = append(want, leaf(100+i))
			finds(t, m, false, some, running)
			finds(t, m, true, some, want...)
		}
	}
}

// What is come to by a frame's keys is come to only if one looks deep, then through all that is sealed too.
func TestFramesLeadOn(t *testing.T) {
	for i := range 16 {
		for _, by := range []int{0, 4} {
			m := holder(12)
			m.Mem[3], m.Mem[4], m.Mem[5] = aKey(leaf(1)), aKey(leaf(2)), aNumber(8)
			m.Stack = make([]api.Frame, 16)
			m.Stack[i].Code = sealed(taker(3, 1), by)
			finds(t, m, false, some, running)
			finds(t, m, true, some, running, api.Key{}, m.Stack[i].Code, leaf(1))
			m.Stack[i].Data = aKey(sealed(taker(4, 2), by))
			finds(t, m, false, some, running)
			finds(t, m, true, some, running, api.Key{}, m.Stack[i].Code, leaf(1), m.Stack[i].Data.Key, leaf(2))
		}
	}
}

// Only a key that allows both PLoad and PTake leads on: whatever else it allows, and wherever it is At.
func TestWhichKeysLeadOn(t *testing.T) {
	for perm := range 128 {
		for _, at := range []int{0, 2, 3, 4, 5, 400} {
			for _, by := range []int{0, 1, 6, 63} {
				k := api.Key{Perm: perm, Base: 3, Len: 2, At: at, Seal: by}
				m := holder(12, k)
				m.Mem[3] = aKey(leaf(1))
				leads := perm%2 == 1 && perm/8%2 == 1
				for _, deep := range both {
					want := []api.Key{running, k}
					if leads && (deep || by == 0) {
						want = append(want, leaf(1))
					}
					finds(t, m, deep, []int{perm, api.PStore}, want...)
				}
			}
		}
	}
}

// Each allows one of both: together they lead on to nothing.
func TestTwoKeysAreNotOne(t *testing.T) {
	m := holder(12, api.Key{Perm: api.PAll - api.PTake, Base: 3, Len: 2}, api.Key{Perm: api.PAll - api.PLoad, Base: 3, Len: 2})
	m.Mem[3] = aKey(leaf(1))
	findsAlways(t, m, running, m.Regs[0].Key, m.Regs[1].Key)
	for _, deep := range both {
		checkPlaces(t, m, api.PLoad+api.PTake, deep, nil, nil)
		checkPlaces(t, m, api.PTake, deep, []int{3, 4}, []int{3, 4})
	}
}

// A key that is found in a cell by one that leads on need not allow that itself, and is for other cells.
func TestExactlyTheCellsOfAKey(t *testing.T) {
	for base := range 13 {
		for n := range 13 - base {
			m := holder(12, taker(base, n))
			want := []api.Key{running, taker(base, n)}
			for at := range m.Mem {
				m.Mem[at] = aKey(leaf(100 + at))
				if at >= base && at < base+n {
					want = append(want, leaf(100+at))
				}
			}
			findsAlways(t, m, want...)
		}
	}
}

func TestCellsBeyondTheMemory(t *testing.T) {
	for size := range 8 {
		for base := range 10 {
			for _, n := range []int{0, 1, 2, 5, 100, 400 - base} {
				for _, by := range []int{0, 3} {
					k := sealed(taker(base, n), by)
					m := holder(size, k)
					inCells := []api.Key{}
					for at := range m.Mem {
						m.Mem[at] = aKey(leaf(100 + at))
						if at >= base && at < base+n {
							inCells = append(inCells, leaf(100+at))
						}
					}
					finds(t, m, true, some, append(inCells, running, k)...)
					if by != 0 {
						inCells = nil
					}
					finds(t, m, false, some, append(inCells, running, k)...)
				}
			}
		}
	}
	findsAlways(t, holder(0, taker(0, 400), taker(400, 0)), running, taker(0, 400), taker(400, 0))
	findsAlways(t, holder(400, taker(400, 0), taker(399, 1)), running, taker(400, 0), taker(399, 1))
}

// What lies in the room behind the lists is none of the machine.
func TestTheRoomBehindIsNotLookedAt(t *testing.T) {
	m := holder(12, taker(0, 400), taker(12, 1))
	m.Mem = append(m.Mem, aKey(leaf(1)), aKey(leaf(2)))[:12]
	m.Stack = append(frames(2), api.Frame{Code: leaf(3), Data: aKey(leaf(4))})[:2]
	finds(t, m, false, some, running, taker(0, 400), taker(12, 1))
	finds(t, m, true, some, running, taker(0, 400), taker(12, 1), m.Stack[0].Code, m.Stack[1].Code, m.Stack[1].Data.Key)
}

// A sealed key that is found in a cell is had, but leads on only if one looks deep.
func TestSealedKeysInCells(t *testing.T) {
	for by := range 64 {
		shut := sealed(taker(4, 1), by)
		m := holder(12, taker(3, 1))
		m.Mem[3], m.Mem[4] = aKey(shut), aKey(leaf(1))
		finds(t, m, true, some, running, taker(3, 1), shut, leaf(1))
		if by != 0 {
			finds(t, m, false, some, running, taker(3, 1), shut)
			continue
		}
		finds(t, m, false, some, running, taker(3, 1), shut, leaf(1))
	}
}

// One and the same key, sealed and not, leads on if one of both does.
func TestSealedAndNot(t *testing.T) {
	shut := sealed(taker(3, 1), 2)
	for _, l := range [][]api.Key{{shut, taker(3, 1)}, {taker(3, 1), shut}} {
		m := holder(12, l...)
		m.Mem[3] = aKey(leaf(1))
		findsAlways(t, m, running, shut, taker(3, 1), leaf(1))
	}
}

// chain answers a machine in which each cell leads to one other cell, the first of them by a register.
// The last one has a key that leads on to nothing.
func chain(cells []int) api.Machine {
	m := holder(400, taker(cells[0], 1))
	for i, at := range cells {
		if i < len(cells)-1 {
			m.Mem[at] = aKey(taker(cells[i+1], 1))
			continue
		}
		m.Mem[at] = aKey(leaf(399))
	}
	return m
}

// inChain answers the keys that such a machine has.
func inChain(cells []int) []api.Key {
	want := []api.Key{running, leaf(399)}
	for _, at := range cells {
		want = append(want, taker(at, 1))
	}
	return want
}

// orders has all 400 cells, or some, in orders that differ much.
func orders() [][]int {
	var up, down, far []int
	for at := range 400 {
		up = append(up, at)
		down = append(down, 399-at)
		far = append(far, at*177%400)
	}
	return [][]int{up, down, far, up[:2], down[:3], far[200:], {0}, {399}, {399, 0}, {7, 3, 200}}
}

func TestOneBehindTheOther(t *testing.T) {
	for _, cells := range orders() {
		m := chain(cells)
		for _, deep := range both {
			finds(t, m, deep, []int{api.PLoad, api.PTake, api.PStore}, inChain(cells)...)
		}
	}
}

// A chain is cut where one of its keys is sealed, but not for who looks deep; a key that is sealed is still had.
func TestChainsThatAreCut(t *testing.T) {
	for _, cells := range orders() {
		for i := range min(len(cells)-1, 20) {
			m := chain(cells)
			shut := sealed(m.Mem[cells[i]].Key, 63)
			m.Mem[cells[i]] = aKey(shut)
			want := []api.Key{running, shut}
			for _, at := range cells[:i+1] {
				want = append(want, taker(at, 1))
			}
			finds(t, m, false, some, want...)
			want = append(want, leaf(399))
			for _, at := range cells[min(i+2, len(cells)):] {
				want = append(want, taker(at, 1))
			}
			finds(t, m, true, some, want...)
		}
	}
}

// Keys that lead round about, to themselves or all to all, are found once, and the search ends.
func TestRoundAbout(t *testing.T) {
	m := holder(12, taker(3, 1))
	m.Mem[3] = aKey(taker(3, 1))
	findsAlways(t, m, running, taker(3, 1))
	for _, cells := range orders() {
		m := chain(cells)
		m.Mem[cells[len(cells)-1]] = aKey(taker(cells[0], 1))
		want := inChain(cells)
		findsAlways(t, m, slices.Delete(want, 1, 2)...)
	}
	m, want := holder(400, taker(0, 400)), []api.Key{running, taker(0, 400)}
	for at := range m.Mem {
		m.Mem[at] = aKey(api.Key{Perm: api.PAll, Len: 400, At: at})
		want = append(want, m.Mem[at].Key)
	}
	findsAlways(t, m, want...)
	m.Regs[0], m.Code = aKey(sealed(taker(0, 400), 1)), sealed(running, 1)
	finds(t, m, false, some, m.Regs[0].Key, m.Code)
	finds(t, m, true, some, append(want[2:], m.Regs[0].Key, m.Code)...)
}

func TestTheSameKeyTwice(t *testing.T) {
	m := holder(12, taker(3, 9), leaf(1), leaf(1), taker(3, 9))
	for at := range m.Mem {
		m.Mem[at] = aKey(leaf(1 + at%2))
	}
	m.Code = leaf(1)
	for range 5 {
		m.Stack = append(m.Stack, api.Frame{Code: leaf(2), Data: aKey(leaf(3))})
	}
	finds(t, m, false, some, taker(3, 9), leaf(1), leaf(2))
	finds(t, m, true, some, taker(3, 9), leaf(1), leaf(2), leaf(3))
}

// Keys that differ in one thing alone are two.
func TestKeysThatDiffer(t *testing.T) {
	k := api.Key{Perm: api.PStore, Base: 5, Len: 3, At: 6, Seal: 2}
	for _, other := range []api.Key{
		{Perm: 18, Base: 5, Len: 3, At: 6, Seal: 2}, {Perm: 2, Base: 4, Len: 3, At: 6, Seal: 2}, {Perm: 2, Base: 5, Len: 4, At: 6, Seal: 2},
		{Perm: 2, Base: 5, Len: 3, At: 7, Seal: 2}, {Perm: 2, Base: 5, Len: 3, At: 6, Seal: 0}, {Perm: 2, Base: 5, Len: 3, At: 6, Seal: 3},
	} {
		findsAlways(t, holder(12, k, other), running, k, other)
		findsAlways(t, holder(12, other, k, other), running, other, k)
	}
}
