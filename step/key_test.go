package step

import (
	"testing"

	"custodian/api"
)

// loads wants R[a] to have become v by a load of C behind the key k in R[b].
func loads(t *testing.T, a, b int, k api.Key, off int, v api.Val) {
	t.Helper()
	m := ready(api.Inst{Op: api.Load, A: a, B: b, C: off})
	m.Regs[b] = aKey(k)
	puts(t, m, a, v)
}

func TestLoad(t *testing.T) {
	all := cells(40)
	for a := range 8 {
		for b := range 8 {
			k := api.Key{Perm: api.PLoad + api.PTake, Base: 20, Len: 10, At: 25}
			for off := -5; off <= 4; off++ {
				loads(t, a, b, k, off, all[25+off])
			}
			loads(t, a, b, api.Key{Perm: api.PLoad + api.PTake, Len: 400, At: 400}, -400, all[0])
			loads(t, a, b, api.Key{Perm: api.PLoad + api.PTake, Len: 400}, 39, all[39])
			loads(t, a, b, api.Key{Perm: api.PLoad, Len: 40}, 4, all[4])
			loads(t, a, b, api.Key{Perm: api.PLoad, Len: 40}, 5, aNumber(0)) // a key that may not be taken
			loads(t, a, b, api.Key{Perm: api.PAll - api.PTake, Len: 40}, 7, aNumber(0))
			loads(t, a, b, api.Key{Perm: api.PLoad + api.PTake, Len: 40}, 7, all[7]) // one that is sealed
			loads(t, a, b, api.Key{Perm: api.PLoad, Len: 40}, place, packed(api.Inst{Op: api.Load, A: a, B: b, C: place}))
		}
	}
}

// useFaults has keys, and how far behind them, that are of no use for p in 40 cells; of two errors the first one is told.
func useFaults(p int) []struct {
	k   api.Key
	off int
	e   api.Errno
} {
	left := api.PAll - p
	return []struct {
		k   api.Key
		off int
		e   api.Errno
	}{
		{api.Key{Perm: 127, Len: 40, Seal: 1}, 0, api.ErrSealed}, {api.Key{Perm: 127, Len: 40, Seal: 63}, 0, api.ErrSealed},
		{api.Key{Perm: left, Len: 40, Seal: 1}, 0, api.ErrSealed}, {api.Key{Perm: 127, Len: 40, Seal: 1}, 40, api.ErrSealed}, {api.Key{Seal: 1}, 0, api.ErrSealed},
		{api.Key{Perm: left, Len: 40}, 0, api.ErrPerm}, {api.Key{Len: 40}, 0, api.ErrPerm}, {api.Key{Perm: left, Len: 40}, 40, api.ErrPerm}, {api.Key{}, 0, api.ErrPerm},
		{api.Key{Perm: 127, Base: 20, Len: 10, At: 25}, 5, api.ErrRange}, {api.Key{Perm: 127, Base: 20, Len: 10, At: 25}, -6, api.ErrRange},
		{api.Key{Perm: 127, Base: 20, Len: 10, At: 19}, 0, api.ErrRange}, {api.Key{Perm: 127, Base: 20, Len: 10, At: 30}, 0, api.ErrRange},
		{api.Key{Perm: 127, Base: 20, Len: 10, At: 25}, -2048, api.ErrRange}, {api.Key{Perm: 127, Base: 20, Len: 10, At: 25}, 2047, api.ErrRange},
		{api.Key{Perm: 127, Len: 400}, 40, api.ErrRange}, {api.Key{Perm: 127, Len: 400}, -1, api.ErrRange}, {api.Key{Perm: 127, Len: 400, At: 400}, 0, api.ErrRange},
		{api.Key{Perm: 127}, 0, api.ErrRange}, {api.Key{Perm: 127, Base: 40, Len: 1, At: 40}, 0, api.ErrRange},
	}
}

func TestLoadOfWhatMayNotBeLoaded(t *testing.T) {
	for _, f := range useFaults(api.PLoad) {
		for a := range 8 {
			for b := range 8 {
				m := ready(api.Inst{Op: api.Load, A: a, B: b, C: f.off})
				m.Regs[b] = aKey(f.k)
				fails(t, m, f.e)
			}
		}
	}
}

// stores wants R[a] to lie in the cell at.
func stores(t *testing.T, m api.Machine, a, at int) {
	t.Helper()
	goes(t, m, func(w *api.Machine) { w.Mem[at] = m.Regs[a] })
}

func TestStore(t *testing.T) {
	for a := range 8 {
		for b := range 8 {
			for off := -5; off <= 4; off++ {
				m := ready(api.Inst{Op: api.Store, A: a, B: b, C: off})
				for _, v := range []api.Val{aNumber(api.MinNumber), aNumber(0), someKey(), aKey(api.Key{Perm: 127, Len: 400, Seal: 63})} {
					m.Regs[a] = v
					m.Regs[b] = aKey(api.Key{Perm: api.PStore + api.PPut, Base: 20, Len: 10, At: 25}) // it stores itself, if A is B
					stores(t, m, a, 25+off)
				}
			}
			m := ready(api.Inst{Op: api.Store, A: a, B: b, C: -400})
			m.Regs[b] = aKey(api.Key{Perm: 127, Len: 400, At: 400})
			stores(t, m, a, 0)
			m = ready(api.Inst{Op: api.Store, A: a, B: b, C: 39})
			m.Regs[b] = aKey(api.Key{Perm: 127, Len: 400})
			stores(t, m, a, 39)
		}
	}
}

// Also the instruction itself may be stored over: the step is done all the same.
func TestStoreOverTheInstruction(t *testing.T) {
	m := with(api.Inst{Op: api.Store, A: 0, B: 1}, aNumber(77), aKey(api.Key{Perm: api.PStore, Len: 40, At: place}))
	stores(t, m, 0, place)
	next, _ := Step(m)
	next.Code.At = place
	fails(t, next, api.ErrForm)
}

func TestStoreOfWhatMayNotBeStored(t *testing.T) {
	for _, f := range useFaults(api.PStore) {
		for a := range 8 {
			for b := range 8 {
				for _, v := range []api.Val{aNumber(5), someKey()} {
					m := ready(api.Inst{Op: api.Store, A: a, B: b, C: f.off})
					m.Regs[a] = v
					m.Regs[b] = aKey(f.k)
					fails(t, m, f.e)
				}
			}
		}
	}
}

// Without PPut no key is stored, but a number; where it would lie is told ahead of that.
func TestStoreOfKeysByPPutAlone(t *testing.T) {
	for perm := range 128 {
		k := aKey(api.Key{Perm: perm, Len: 40, At: 30})
		for _, v := range []api.Val{aNumber(5), someKey(), aKey(api.Key{Seal: 5})} {
			m := with(api.Inst{Op: api.Store, A: 2, B: 1}, aNumber(0), k, v)
			if perm/2%2 == 0 || v.Is && perm/16%2 == 0 {
				fails(t, m, api.ErrPerm)
				continue
			}
			stores(t, m, 2, 30)
		}
	}
	m := with(api.Inst{Op: api.Store, A: 0, B: 1, C: 10}, someKey(), aKey(api.Key{Perm: api.PStore, Len: 40, At: 30}))
	fails(t, m, api.ErrRange)
}

func TestNoNumberIsLoadedOrStoredBy(t *testing.T) {
	for _, op := range []int{api.Load, api.Store, api.Drop} {
		for a := range 8 {
			for b := range 8 {
				for _, n := range []int{0, 1, 20, -1, api.MaxNumber, api.MinNumber} {
					m := ready(api.Inst{Op: op, A: a, B: b, C: 1})
					m.Regs[a] = someKey()
					m.Regs[b] = aNumber(n)
					fails(t, m, api.ErrTag)
				}
			}
		}
	}
}

// made is what is to come of a key and a number.
type made struct {
	k    api.Key
	n    int
	want api.Key
	e    api.Errno
}

var mid = api.Key{Perm: 91, Base: 10, Len: 20, At: 15}

// at answers mid at another place.
func at(place int) api.Key {
	k := mid
	k.At = place
	return k
}

// shut answers k, sealed by 7.
func shut(k api.Key) api.Key {
	k.Seal = 7
	return k
}

var moves = []made{
	{mid, 0, at(15), api.OK}, {mid, 1, at(16), api.OK}, {mid, -1, at(14), api.OK}, {mid, -15, at(0), api.OK}, {mid, 385, at(400), api.OK},
	{mid, -16, api.Key{}, api.ErrRange}, {mid, 386, api.Key{}, api.ErrRange}, {mid, api.MaxNumber, api.Key{}, api.ErrRange}, {mid, api.MinNumber, api.Key{}, api.ErrRange},
	{at(0), -1, api.Key{}, api.ErrRange}, {at(400), 1, api.Key{}, api.ErrRange}, {at(400), -400, at(0), api.OK}, {at(0), 400, at(400), api.OK},
	{shut(mid), 1, api.Key{}, api.ErrSealed}, {shut(mid), 0, api.Key{}, api.ErrSealed}, {shut(mid), 386, api.Key{}, api.ErrSealed},
}

var narrows = []made{
	{mid, 4, api.Key{Perm: 91, Base: 15, Len: 4, At: 15}, api.OK}, {mid, 0, api.Key{Perm: 91, Base: 15, Len: 0, At: 15}, api.OK}, {mid, 15, api.Key{Perm: 91, Base: 15, Len: 15, At: 15}, api.OK},
	{at(10), 20, api.Key{Perm: 91, Base: 10, Len: 20, At: 10}, api.OK}, {at(30), 0, api.Key{Perm: 91, Base: 30, Len: 0, At: 30}, api.OK},
	{mid, 16, api.Key{}, api.ErrRange}, {mid, -1, api.Key{}, api.ErrRange}, {at(10), 21, api.Key{}, api.ErrRange}, {at(9), 1, api.Key{}, api.ErrRange}, {at(9), 0, api.Key{}, api.ErrRange},
	{at(30), 1, api.Key{}, api.ErrRange}, {at(31), 0, api.Key{}, api.ErrRange}, {mid, api.MaxNumber, api.Key{}, api.ErrRange}, {mid, api.MinNumber, api.Key{}, api.ErrRange},
	{shut(mid), 4, api.Key{}, api.ErrSealed}, {shut(mid), -1, api.Key{}, api.ErrSealed}, {shut(at(9)), 99, api.Key{}, api.ErrSealed},
}

// checkMade wants R[a] to have become the key, or the error.
func checkMade(t *testing.T, m api.Machine, a int, want api.Key, e api.Errno) {
	t.Helper()
	if e != api.OK {
		fails(t, m, e)
		return
	}
	puts(t, m, a, aKey(want))
}

func TestMoveAndNarrow(t *testing.T) {
	for op, all := range map[int][]made{api.Move: moves, api.Narrow: narrows} {
		for _, d := range all {
			regs(func(a, b, c int) {
				if b == c {
					return // one register is not both
				}
				m := ready(api.Inst{Op: op, A: a, B: b, C: c})
				m.Regs[b], m.Regs[c] = aKey(d.k), aNumber(d.n)
				checkMade(t, m, a, d.want, d.e)
			})
		}
	}
}

// WANTED is told ahead of what chapter 3 tells.
func TestMoveAndNarrowWant(t *testing.T) {
	for _, op := range []int{api.Move, api.Narrow} {
		regs(func(a, b, c int) {
			for _, v := range []api.Val{aNumber(1), aKey(mid), aKey(shut(mid)), aKey(at(9))} {
				for _, other := range []api.Val{aNumber(1), aNumber(1 << 30), someKey()} {
					if v.Is && !other.Is && b != c {
						continue // both are what they are WANTED as
					}
					m := ready(api.Inst{Op: op, A: a, B: b, C: c})
					m.Regs[b] = v
					m.Regs[c] = other
					fails(t, m, api.ErrTag)
				}
			}
		})
	}
}

func TestDrop(t *testing.T) {
	for a := range 8 {
		for b := range 8 {
			for p := range 128 {
				m := ready(api.Inst{Op: api.Drop, A: a, B: b, C: p})
				m.Regs[b] = aKey(api.Key{Perm: 127, Base: 10, Len: 20, At: 400})
				puts(t, m, a, aKey(api.Key{Perm: p, Base: 10, Len: 20, At: 400}))
				m.Regs[b] = aKey(shut(mid))
				fails(t, m, api.ErrSealed)
			}
			for _, d := range []struct{ has, c, left int }{{91, 127, 91}, {91, 0, 0}, {91, 36, 0}, {91, 3, 3}, {91, 12, 8}, {0, 127, 0}, {5, 6, 4}} {
				m := ready(api.Inst{Op: api.Drop, A: a, B: b, C: d.c})
				m.Regs[b] = aKey(api.Key{Perm: d.has, Base: 1, Len: 2, At: 3})
				puts(t, m, a, aKey(api.Key{Perm: d.left, Base: 1, Len: 2, At: 3}))
			}
		}
	}
}

// pair is what is to come of two keys.
type pair struct {
	k, by, want api.Key
	e           api.Errno
}

// seals are what a key for some of the numbers 1 to 9 is At.
func seals(perm, at int) api.Key { return api.Key{Perm: perm, Base: 1, Len: 9, At: at} }

var sealings = []pair{
	{mid, seals(api.PSeal, 7), shut(mid), api.OK}, {mid, seals(127, 7), shut(mid), api.OK}, {api.Key{}, seals(api.PSeal, 1), api.Key{Seal: 1}, api.OK}, {api.Key{}, seals(api.PSeal, 9), api.Key{Seal: 9}, api.OK},
	{mid, api.Key{Perm: api.PSeal, Base: 63, Len: 1, At: 63}, api.Key{Perm: 91, Base: 10, Len: 20, At: 15, Seal: 63}, api.OK},
	{shut(mid), seals(api.PSeal, 7), api.Key{}, api.ErrSealed}, {shut(mid), seals(0, 7), api.Key{}, api.ErrSealed}, {shut(mid), seals(api.PSeal, 99), api.Key{}, api.ErrSealed},
	{mid, shut(seals(api.PSeal, 7)), api.Key{}, api.ErrSealed}, {mid, shut(seals(0, 99)), api.Key{}, api.ErrSealed},
	{mid, seals(api.PAll-api.PSeal, 7), api.Key{}, api.ErrPerm}, {mid, seals(api.POpen, 99), api.Key{}, api.ErrPerm}, {mid, seals(0, 7), api.Key{}, api.ErrPerm},
	{mid, seals(api.PSeal, 0), api.Key{}, api.ErrRange}, {mid, seals(api.PSeal, 10), api.Key{}, api.ErrRange}, {mid, api.Key{Perm: 127, Len: 400}, api.Key{}, api.ErrRange},
	{mid, api.Key{Perm: 127, Len: 400, At: 64}, api.Key{}, api.ErrRange}, {mid, api.Key{Perm: 127, Len: 400, At: 400}, api.Key{}, api.ErrRange}, {mid, api.Key{Perm: 127, Base: 7, At: 7}, api.Key{}, api.ErrRange},
}

var openings = []pair{
	{shut(mid), seals(api.POpen, 7), mid, api.OK}, {shut(mid), seals(127, 7), mid, api.OK}, {api.Key{Seal: 63}, api.Key{Perm: api.POpen, Len: 400, At: 63}, api.Key{}, api.OK}, {api.Key{Seal: 1}, seals(api.POpen, 1), api.Key{}, api.OK},
	{mid, seals(api.POpen, 7), api.Key{}, api.ErrSealed}, {mid, seals(0, 99), api.Key{}, api.ErrSealed}, {mid, api.Key{Perm: 127, Len: 400}, api.Key{}, api.ErrSealed},
	{shut(mid), shut(seals(api.POpen, 7)), api.Key{}, api.ErrSealed}, {shut(mid), shut(seals(0, 99)), api.Key{}, api.ErrSealed},
	{shut(mid), seals(api.PAll-api.POpen, 7), api.Key{}, api.ErrPerm}, {shut(mid), seals(api.PSeal, 99), api.Key{}, api.ErrPerm}, {shut(mid), seals(0, 6), api.Key{}, api.ErrPerm},
	{shut(mid), seals(api.POpen, 0), api.Key{}, api.ErrRange}, {shut(mid), seals(api.POpen, 10), api.Key{}, api.ErrRange}, {shut(mid), api.Key{Perm: 127, Base: 7, At: 7}, api.Key{}, api.ErrRange},
	{shut(mid), seals(api.POpen, 6), api.Key{}, api.ErrSealed}, {shut(mid), seals(api.POpen, 8), api.Key{}, api.ErrSealed}, {shut(mid), api.Key{Perm: 127, Len: 400}, api.Key{}, api.ErrSealed},
}

func TestSealAndOpen(t *testing.T) {
	for op, all := range map[int][]pair{api.Seal: sealings, api.Open: openings} {
		for _, d := range all {
			regs(func(a, b, c int) {
				if b == c {
					return // below
				}
				m := ready(api.Inst{Op: op, A: a, B: b, C: c})
				m.Regs[b], m.Regs[c] = aKey(d.k), aKey(d.by)
				checkMade(t, m, a, d.want, d.e)
			})
		}
	}
}

// A key may seal itself, but what is sealed opens nothing, not even itself.
func TestSealAndOpenOfOneRegister(t *testing.T) {
	for a := range 8 {
		for b := range 8 {
			m := ready(api.Inst{Op: api.Seal, A: a, B: b, C: b})
			m.Regs[b] = aKey(seals(127, 7))
			puts(t, m, a, aKey(shut(seals(127, 7))))
			m.Regs[b] = aKey(shut(seals(127, 7)))
			fails(t, m, api.ErrSealed)
			m = ready(api.Inst{Op: api.Open, A: a, B: b, C: b})
			m.Regs[b] = aKey(shut(seals(127, 7)))
			fails(t, m, api.ErrSealed)
			m.Regs[b] = aKey(seals(127, 7))
			fails(t, m, api.ErrSealed)
		}
	}
}

func TestSealAndOpenWantKeys(t *testing.T) {
	for _, op := range []int{api.Seal, api.Open} {
		regs(func(a, b, c int) {
			for _, k := range []api.Key{mid, shut(mid), seals(127, 7), {}} {
				m := ready(api.Inst{Op: op, A: a, B: b, C: c})
				m.Regs[b] = aKey(k)
				m.Regs[c] = aNumber(7)
				fails(t, m, api.ErrTag)
				m.Regs[c] = aKey(k)
				m.Regs[b] = aNumber(0)
				fails(t, m, api.ErrTag)
				m.Regs[b], m.Regs[c] = aNumber(0), aNumber(7)
				fails(t, m, api.ErrTag)
			}
		})
	}
}
