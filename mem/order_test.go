package mem

import (
	"math"
	"testing"

	"custodian/api"
)

// call is what is handed in to Load (without v) or to Store.
type call struct {
	m   []api.Val
	k   api.Key
	off int
	v   api.Val
}

// right is a call at which nothing is wrong. A key is stored, so that PPut counts.
func right() call {
	return call{m: cells(10), k: api.Key{Perm: 127, Base: 2, Len: 5, At: 4}, off: 1, v: aKey(api.Key{Perm: 1, Len: 3})}
}

// fault makes a call wrong in one way, whatever else is wrong already.
type fault struct {
	do func(c *call)
	e  api.Errno
}

func large() fault { return fault{func(c *call) { c.m = append(c.m, cells(391)...) }, api.ErrLarge} }

func wrongCell(at int, w wrong) fault { return fault{func(c *call) { c.m[at] = w.v }, w.e} }

func wrongValue(w wrong) fault { return fault{func(c *call) { c.v = w.v }, w.e} }

func wrongKey() fault { return fault{func(c *call) { c.k.Perm += 128 }, api.ErrArg} }

func sealed() fault { return fault{func(c *call) { c.k.Seal = 9 }, api.ErrSealed} }

func forbidden(p int) fault { return fault{func(c *call) { c.k.Perm -= p }, api.ErrPerm} }

func outside(off int) fault { return fault{func(c *call) { c.off = off }, api.ErrRange} }

// beyond lets the key be for cells that the memory has not, and leads there.
func beyond() fault {
	return fault{func(c *call) { c.k.Len, c.off = 390, 300 }, api.ErrRange}
}

// eachChoice makes all choices of the faults, which stand in the order of the chapter, and tells which error is first.
func eachChoice(faults []fault, try func(c call, want api.Errno)) {
	for choice := range 1 << len(faults) {
		c, want := right(), api.OK
		for i, f := range faults {
			if choice>>i%2 == 0 {
				continue
			}
			f.do(&c)
			if want == api.OK {
				want = f.e
			}
		}
		try(c, want)
	}
}

// outs has faults of what is out of range, at both ends and far beyond them.
func outs() []fault {
	return []fault{beyond(), outside(-3), outside(3), outside(-5), outside(1000), outside(math.MaxInt), outside(math.MinInt)}
}

func TestLoadTellsTheFirstError(t *testing.T) {
	for _, w := range wrongs {
		for _, out := range outs() {
			faults := []fault{large(), wrongCell(0, w), wrongKey(), sealed(), forbidden(api.PLoad), out}
			eachChoice(faults, func(c call, want api.Errno) {
				t.Helper()
				there := api.Val{}
				if want == api.OK {
					there = c.m[5]
				}
				checkLoad(t, c.m, c.k, c.off, there, want)
			})
		}
	}
}

func TestStoreTellsTheFirstError(t *testing.T) {
	ways := outs()
	for i, there := range wrongs {
		for j, v := range wrongs {
			out := ways[(i+j)%len(ways)] // one of them for each pair of wrong values: all of them would take long
			faults := []fault{
				large(), wrongCell(9, there), wrongValue(v), wrongKey(), sealed(), forbidden(api.PStore), out, forbidden(api.PPut),
			}
			eachChoice(faults, func(c call, want api.Errno) {
				t.Helper()
				checkStore(t, c.m, c.k, c.off, c.v, 5, want)
			})
		}
	}
}

// A wrong cell counts though the key does not cover it, or it is the one that is to be stored over.
func TestAWrongCellCountsWhereverItIs(t *testing.T) {
	for _, w := range wrongs {
		for at := range 10 {
			c := right()
			c.m[at] = w.v
			checkLoad(t, c.m, c.k, c.off, api.Val{}, w.e)
			checkStore(t, c.m, c.k, c.off, c.v, 0, w.e)
		}
	}
}

// Of two wrong cells the first one is told, by Load and by Store too.
func TestTheFirstWrongCellIsTold(t *testing.T) {
	for _, first := range wrongs {
		for _, second := range wrongs {
			c := right()
			c.m[3], c.m[5] = first.v, second.v
			checkLoad(t, c.m, c.k, c.off, api.Val{}, first.e)
			checkStore(t, c.m, c.k, c.off, c.v, 0, first.e)
		}
	}
}

// That a key may not be put is told last, that nothing may be stored ahead of where.
func TestWhatIsNotAllowedIsToldAtTwoPlaces(t *testing.T) {
	m := cells(4)
	v := aKey(api.Key{})
	checkStore(t, m, api.Key{Perm: api.PPut, Len: 4}, 4, v, 0, api.ErrPerm)
	checkStore(t, m, api.Key{Perm: api.PStore, Len: 4}, 4, v, 0, api.ErrRange)
	checkStore(t, m, api.Key{Perm: api.PStore, Len: 4}, 3, v, 0, api.ErrPerm)
	checkStore(t, m, api.Key{Perm: api.PStore, Len: 400}, 4, v, 0, api.ErrRange)
	checkLoad(t, m, api.Key{Perm: api.PTake, Len: 4}, 4, api.Val{}, api.ErrPerm)
	checkLoad(t, m, api.Key{Perm: api.PLoad, Len: 4}, 4, api.Val{}, api.ErrRange)
}
