package reach

import (
	"testing"

	"custodian/api"
)

// upTo answers the numbers from first to last.
func upTo(first, last int) []int {
	var l []int
	for n := first; n <= last; n++ {
		l = append(l, n)
	}
	return l
}

// What is told of one key for cells from base on, n of them, if the memory has so many cells.
func cellsOf(base, n, size int) []int { return upTo(base, min(base+n, size)-1) }
func sealsOf(base, n int) []int       { return upTo(max(base, 1), min(base+n-1, 63)) }

func TestPlacesWrittenOut(t *testing.T) {
	m := holder(9, api.Key{Perm: api.PLoad + api.PStore, Base: 4, Len: 3}, api.Key{Perm: api.PStore, Base: 6, Len: 2}, api.Key{Perm: api.PLoad, Base: 1, Len: 1})
	m.Regs[5] = aKey(api.Key{Perm: api.PSeal + api.PLoad, Base: 7, Len: 5, Seal: 8})
	m.Regs[6] = aKey(api.Key{Perm: api.POpen, Base: 62, Len: 4})
	for _, c := range []struct {
		p            int
		deep         bool
		cells, seals []int
	}{
		{0, false, []int{0, 1, 4, 5, 6, 7}, []int{1, 4, 5, 6, 7, 62, 63}},
		{0, true, []int{0, 1, 4, 5, 6, 7, 8}, []int{1, 4, 5, 6, 7, 8, 9, 10, 11, 62, 63}},
		{api.PLoad, false, []int{1, 4, 5, 6}, []int{1, 4, 5, 6}},
		{api.PLoad, true, []int{1, 4, 5, 6, 7, 8}, []int{1, 4, 5, 6, 7, 8, 9, 10, 11}},
		{api.PStore, false, []int{4, 5, 6, 7}, []int{4, 5, 6, 7}},
		{api.PStore, true, []int{4, 5, 6, 7}, []int{4, 5, 6, 7}},
		{api.PLoad + api.PStore, false, []int{4, 5, 6}, []int{4, 5, 6}},
		{api.PExec, false, []int{0, 1}, []int{1}},
		{api.PExec + api.PStore, true, nil, nil},
		{api.PSeal, false, nil, nil},
		{api.PSeal, true, []int{7, 8}, []int{7, 8, 9, 10, 11}},
		{api.PSeal + api.PLoad, true, []int{7, 8}, []int{7, 8, 9, 10, 11}},
		{api.PSeal + api.POpen, true, nil, nil},
		{api.POpen, false, nil, []int{62, 63}},
		{api.PAll, true, nil, nil},
		{-1, true, nil, nil},
		{128, true, nil, nil},
		{128 + api.PLoad, true, nil, nil},
	} {
		checkPlaces(t, m, c.p, c.deep, c.cells, c.seals)
	}
}

// All that keys may allow, against all that can be asked for.
func TestEachPerm(t *testing.T) {
	for _, perm := range allowed() {
		for _, by := range []int{0, 5} {
			k := api.Key{Perm: perm, Base: 4, Len: 3, At: 400, Seal: by}
			m := api.Machine{Code: k, Mem: numbers(12)}
			for _, deep := range both {
				for _, p := range append(allowed(), beyond...) {
					var want []int
					if hasAll(perm, p) && (deep || by == 0) {
						want = []int{4, 5, 6}
					}
					checkPlaces(t, m, p, deep, want, want)
				}
			}
		}
	}
}

// p beyond what may be is no error: nothing allows it, whatever there is.
func TestBeyondWhatMayBe(t *testing.T) {
	m := holder(400, api.Key{Perm: api.PAll, Len: 400})
	for _, deep := range both {
		for _, p := range allowed() {
			checkPlaces(t, m, p, deep, upTo(0, 399), upTo(1, 63))
		}
		for _, p := range beyond {
			checkPlaces(t, m, p, deep, nil, nil)
		}
	}
}

// What one key allows and what another one does are not put together.
func TestKeysAreNotPutTogether(t *testing.T) {
	m := holder(12, api.Key{Perm: api.PLoad, Base: 4, Len: 3}, api.Key{Perm: api.PStore, Base: 4, Len: 3})
	for _, deep := range both {
		checkPlaces(t, m, api.PLoad, deep, []int{4, 5, 6}, []int{4, 5, 6})
		checkPlaces(t, m, api.PStore, deep, []int{4, 5, 6}, []int{4, 5, 6})
		checkPlaces(t, m, api.PLoad+api.PStore, deep, nil, nil)
	}
}

// Of Seals the cells of the memory do not count, of Cells how many seals there are does not.
func TestEachRange(t *testing.T) {
	for _, size := range []int{0, 1, 2, 30, 62, 63, 64, 65, 200, 399, 400} {
		for _, base := range []int{0, 1, 2, 29, 30, 61, 62, 63, 64, 65, 199, 200, 398, 399, 400} {
			for _, n := range []int{0, 1, 2, 3, 30, 62, 63, 64, 65, 200, 398, 399, 400} {
				if base+n > 400 {
					continue
				}
				k := api.Key{Perm: api.PStore, Base: base, Len: n, At: 7}
				m := api.Machine{Code: k, Mem: numbers(size)}
				for _, deep := range both {
					checkPlaces(t, m, api.PStore, deep, cellsOf(base, n, size), sealsOf(base, n))
				}
			}
		}
	}
}

// Each cell and each seal alone, at the first, at the last, and beyond both ends.
func TestEachPlaceAlone(t *testing.T) {
	for at := range 400 {
		for _, size := range []int{0, 20, 400} {
			m := api.Machine{Code: api.Key{Perm: api.PSeal, Base: at, Len: 1}, Mem: numbers(size)}
			var cells, seals []int
			if at < size {
				cells = []int{at}
			}
			if at >= 1 && at <= 63 {
				seals = []int{at}
			}
			for _, deep := range both {
				checkPlaces(t, m, api.PSeal, deep, cells, seals)
			}
		}
	}
}

// A key that has no cell is for none, wherever its Base is, and wherever it is At.
func TestKeysWithoutCells(t *testing.T) {
	for base := range 401 {
		for _, at := range []int{0, base, 400} {
			k := api.Key{Perm: api.PAll, Base: base, At: at}
			m := holder(12, k)
			m.Code = sealed(k, 63)
			m.Mem[min(base, 11)] = aKey(leaf(2))
			for _, deep := range both {
				finds(t, m, deep, []int{0, api.PLoad}, k, m.Code)
				checkPlaces(t, m, 0, deep, nil, nil)
			}
		}
	}
}

// Where a key is At counts for nothing, also outside of its cells.
func TestWhereAKeyIsDoesNotCount(t *testing.T) {
	for at := range 401 {
		m := holder(12, api.Key{Perm: api.PStore, Base: 4, Len: 3, At: at})
		for _, deep := range both {
			checkPlaces(t, m, api.PStore, deep, []int{4, 5, 6}, []int{4, 5, 6})
		}
	}
}

// By which seal a key is sealed says nothing about which seals it is for.
func TestTheSealOfAKeyIsNotWhatItIsFor(t *testing.T) {
	for by := 1; by <= 63; by++ {
		m := holder(12, api.Key{Perm: api.PSeal, Base: 10, Len: 1, Seal: by})
		checkPlaces(t, m, api.PSeal, false, nil, nil)
		checkPlaces(t, m, api.PSeal, true, []int{10}, []int{10})
	}
}

// Cells and seals are told also of keys that are in cells and in frames.
func TestPlacesOfKeysThatAreComeTo(t *testing.T) {
	m := holder(12, taker(3, 2))
	m.Mem[3] = aKey(api.Key{Perm: api.PStore, Base: 8, Len: 1})
	m.Mem[4] = aKey(api.Key{Perm: api.PStore, Base: 9, Len: 1, Seal: 1})
	m.Mem[5] = aKey(api.Key{Perm: api.PStore, Base: 7, Len: 1}) // nothing leads here
	m.Stack = []api.Frame{{Code: api.Key{Perm: api.PStore, Base: 10, Len: 1}, Data: aKey(api.Key{Perm: api.PStore, Base: 11, Len: 1, Seal: 2})}}
	checkPlaces(t, m, api.PStore, false, []int{8}, []int{8})
	checkPlaces(t, m, api.PStore, true, []int{8, 9, 10, 11}, []int{8, 9, 10, 11})
	m.Stack[0].Data = aNumber(11)
	checkPlaces(t, m, api.PStore, true, []int{8, 9, 10}, []int{8, 9, 10})
}

// Cells that many keys are for are told once.
func TestPlacesAreToldOnce(t *testing.T) {
	m := holder(12)
	for r := range m.Regs {
		m.Regs[r] = aKey(api.Key{Perm: api.PStore, Base: 9 - r, Len: r})
	}
	m.Code = m.Regs[3].Key
	for _, deep := range both {
		checkPlaces(t, m, api.PStore, deep, []int{2, 3, 4, 5, 6, 7, 8}, []int{2, 3, 4, 5, 6, 7, 8})
	}
}
