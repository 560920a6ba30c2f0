package mem

import (
	"math"
	"slices"
	"testing"

	"custodian/api"
)

// has says whether what a key allows has one of api's permissions.
func has(perm, one int) bool { return perm/one%2 == 1 }

// checkLoad holds Load against what is wanted, and the memory against what it was.
func checkLoad(t *testing.T, m []api.Val, k api.Key, off int, want api.Val, wantE api.Errno) {
	t.Helper()
	was := slices.Clone(m[:cap(m)])
	if v, e := Load(m, k, off); v != want || e != wantE {
		t.Errorf("Load(%d cells, %+v, %d) = %+v, %d, want %+v, %d", len(m), k, off, v, e, want, wantE)
	}
	if !slices.Equal(m[:cap(m)], was) {
		t.Errorf("Load(%d cells, %+v, %d) changed them", len(m), k, off)
	}
}

// checkStore wants v to lie in the cell at, or, with an error, no memory at all.
func checkStore(t *testing.T, m []api.Val, k api.Key, off int, v api.Val, at int, wantE api.Errno) {
	t.Helper()
	was := slices.Clone(m[:cap(m)])
	got, e := Store(m, k, off, v)
	if e != wantE {
		t.Errorf("Store(%d cells, %+v, %d, %+v) = %d, want %d", len(m), k, off, v, e, wantE)
		return
	}
	var want []api.Val
	if wantE == api.OK {
		want = slices.Clone(m)
		want[at] = v
	}
	if !slices.Equal(got, want) || wantE != api.OK && got != nil {
		t.Errorf("Store(%d cells, %+v, %d, %+v) = %+v, want %+v", len(m), k, off, v, got, want)
	}
	if !slices.Equal(m[:cap(m)], was) {
		t.Errorf("Store(%d cells, %+v, %d, %+v) changed them", len(m), k, off, v)
	}
}

// checkBoth wants the same cell of Load and of Store, or the same error. The key allows all.
func checkBoth(t *testing.T, m []api.Val, k api.Key, off, at int, wantE api.Errno) {
	t.Helper()
	var there api.Val
	if wantE == api.OK {
		there = m[at]
	}
	checkLoad(t, m, k, off, there, wantE)
	checkStore(t, m, k, off, aNumber(-77), at, wantE)
	checkStore(t, m, k, off, aKey(api.Key{Perm: 3, Base: 7, Len: 9, At: 8, Seal: 2}), at, wantE)
}

func TestPlacesWrittenOut(t *testing.T) {
	for _, c := range []struct{ base, n, at, off, want int }{
		{10, 20, 15, 0, 15}, {10, 20, 15, 1, 16}, {10, 20, 15, -1, 14},
		{10, 20, 15, -5, 10}, {10, 20, 15, 14, 29}, // its first and its last cell
		{10, 20, 10, 0, 10}, {10, 20, 29, 0, 29}, {10, 20, 10, 19, 29}, {10, 20, 29, -19, 10},
		{10, 20, 9, 1, 10}, {10, 20, 30, -1, 29}, {10, 20, 0, 10, 10}, {10, 20, 0, 29, 29}, {10, 20, 400, -371, 29}, {10, 20, 400, -390, 10}, // it may be outside of its cells
		{10, 1, 10, 0, 10}, {0, 1, 0, 0, 0}, {0, 400, 0, 0, 0}, {0, 400, 0, 39, 39}, {0, 400, 39, 0, 39}, {0, 400, 400, -400, 0}, {39, 1, 39, 0, 39}, {39, 361, 400, -361, 39},
	} {
		checkBoth(t, cells(40), api.Key{Perm: 127, Base: c.base, Len: c.n, At: c.at}, c.off, c.want, api.OK)
	}
	for _, c := range []struct{ base, n, at, off int }{
		{10, 20, 15, -6}, {10, 20, 15, 15}, {10, 20, 15, -7}, {10, 20, 15, 16}, // one and two beyond each end
		{10, 20, 9, 0}, {10, 20, 30, 0}, {10, 20, 10, -1}, {10, 20, 10, 20}, {10, 20, 29, 1}, {10, 20, 29, -20}, {10, 20, 0, 9}, {10, 20, 0, 30}, {10, 20, 400, -370}, {10, 20, 400, -391}, {10, 20, 400, 0}, {10, 20, 0, 0},
		{10, 20, 0, -1}, {10, 20, 0, -10}, {10, 20, 0, -29}, {10, 20, 15, -15}, {10, 20, 15, -16}, {10, 20, 15, -30},
		{10, 0, 10, 0}, {10, 0, 10, -1}, {10, 0, 9, 1}, {0, 0, 0, 0}, {400, 0, 400, 0}, {0, 0, 1, -1}, // no cells
		{0, 400, 0, -1}, {0, 400, 0, 40}, {0, 400, 40, 0}, {0, 400, 39, 1}, {0, 400, 399, 0}, {0, 400, 400, 0}, {0, 400, 400, -360}, // more cells than the memory has
		{39, 361, 400, -360}, {40, 360, 40, 0}, {40, 1, 40, 0}, {40, 360, 399, 0}, {40, 360, 39, 0}, {399, 1, 399, 0},
	} {
		checkBoth(t, cells(40), api.Key{Perm: 127, Base: c.base, Len: c.n, At: c.at}, c.off, 0, api.ErrRange)
	}
}

// far has numbers so great that a sum of one and a place may wrap round, or be a place where upper bits are cut off.
func far() []int {
	all := []int{
		1 << 62, -1 << 62, 1 << 40, -1 << 40, 1 << 32, -1 << 32, 1 << 31, -1 << 31, 1 << 16, -1 << 16, 1 << 9, -1 << 9, 1 << 8, -1 << 8, 401, -401,
		1<<32 + 1, 1<<32 - 1, -1<<32 + 1, -1<<32 - 1, 1<<31 + 1, -1<<31 - 1, 1<<62 + 1, -1<<62 - 1, 1<<16 + 1, 1<<8 + 1,
	}
	for by := range 410 {
		all = append(all, math.MaxInt-by, math.MinInt+by)
	}
	return all
}

func TestFarOffs(t *testing.T) {
	m := cells(40)
	for _, off := range far() {
		for _, at := range []int{0, 1, 15, 39, 40} {
			checkBoth(t, m, api.Key{Perm: 127, Len: 40, At: at}, off, 0, api.ErrRange)
			checkBoth(t, m, api.Key{Perm: 127, Base: 10, Len: 20, At: at}, off, 0, api.ErrRange)
		}
	}
	for _, off := range far() {
		if off > -401 && off < 401 {
			continue
		}
		checkLoad(t, cells(400), api.Key{Perm: 127, Len: 400, At: 400}, off, api.Val{}, api.ErrRange)
		checkStore(t, cells(400), api.Key{Perm: 127, Len: 400, At: 400}, off, api.Val{}, 0, api.ErrRange)
	}
}

// Each place of a key, in each size of memory near it, by each off near it: told without a sum.
func TestPlacesOneByOne(t *testing.T) {
	for n := range 7 {
		m := cells(n)
		for base := range 7 {
			for have := range 7 - base {
				for at := range 9 {
					k := api.Key{Perm: 127, Base: base, Len: have, At: at}
					for off := -10; off <= 10; off++ {
						checkPlace(t, m, k, off)
					}
				}
			}
		}
	}
}

// checkPlace looks through the key's cells for the one that is off behind At.
func checkPlace(t *testing.T, m []api.Val, k api.Key, off int) {
	t.Helper()
	for c := k.Base; c < k.Base+k.Len && c < len(m); c++ {
		if c-k.At == off {
			checkBoth(t, m, k, off, c, api.OK)
			return
		}
	}
	checkBoth(t, m, k, off, 0, api.ErrRange)
}

func TestEachCellOfTheGreatestMemory(t *testing.T) {
	m := cells(400)
	for c := range m {
		for _, k := range []api.Key{
			{Perm: 127, Len: 400, At: 0}, {Perm: 127, Len: 400, At: 400}, {Perm: 127, Len: 400, At: c}, {Perm: 127, Base: c, Len: 1, At: 200}, {Perm: 127, Base: c, Len: 400 - c, At: 399},
		} {
			checkBoth(t, m, k, c-k.At, c, api.OK)
		}
	}
}

func TestNoCellIsInNoMemory(t *testing.T) {
	for _, m := range [][]api.Val{nil, {}, make([]api.Val, 0, 10)} {
		for _, k := range []api.Key{{Perm: 127}, {Perm: 127, Len: 400}, {Perm: 127, Len: 1}, {Perm: 127, Base: 399, Len: 1, At: 399}} {
			for off := -401; off <= 401; off++ {
				checkBoth(t, m, k, off, 0, api.ErrRange)
			}
		}
	}
}

// The room behind the last cell is none of the memory's, though a key is for it.
func TestRoomBehindIsNotUsed(t *testing.T) {
	all := cells(20)
	k := api.Key{Perm: 127, Len: 400, At: 5}
	for at := range all {
		if at < 8 {
			checkBoth(t, all[:8], k, at-5, at, api.OK)
			continue
		}
		checkBoth(t, all[:8], k, at-5, 0, api.ErrRange)
	}
}

// things has numbers, the least and the greatest among them, and keys, sealed ones among them.
var things = []api.Val{
	aNumber(1), aNumber(-1), aNumber(api.MaxNumber), aNumber(api.MinNumber), aNumber(0),
	aKey(api.Key{}), aKey(api.Key{Perm: 127, Len: 400}), aKey(api.Key{Perm: 127, Len: 400, Seal: 63}), aKey(api.Key{Perm: 3, Base: 2, Len: 1, At: 2}), aKey(api.Key{Seal: 1}),
}

func TestLoadByEachPerm(t *testing.T) {
	for perm := range 128 {
		k := api.Key{Perm: perm, Base: 2, Len: 3, At: 3}
		for _, there := range things {
			m := cells(6)
			m[4] = there
			want, wantE := there, api.OK
			if there.Is && !has(perm, 8) {
				want = api.Val{}
			}
			if !has(perm, 1) {
				want, wantE = api.Val{}, api.ErrPerm
			}
			checkLoad(t, m, k, 1, want, wantE)
		}
	}
}

func TestStoreByEachPerm(t *testing.T) {
	for perm := range 128 {
		k := api.Key{Perm: perm, Base: 2, Len: 3, At: 3}
		for _, v := range things {
			for _, there := range things {
				m := cells(6)
				m[4] = there
				want := api.OK
				if !has(perm, 2) || v.Is && !has(perm, 16) {
					want = api.ErrPerm
				}
				checkStore(t, m, k, 1, v, 4, want)
			}
		}
	}
}

func TestPermsWrittenOut(t *testing.T) {
	inner := aKey(api.Key{Perm: 127, Len: 400, At: 9, Seal: 4})
	m := []api.Val{aNumber(5), inner}
	by := func(perm int) api.Key { return api.Key{Perm: perm, Len: 2} }

	checkLoad(t, m, by(api.PLoad), 0, aNumber(5), api.OK)
	checkLoad(t, m, by(api.PLoad), 1, aNumber(0), api.OK)
	checkLoad(t, m, by(api.PLoad+api.PTake), 0, aNumber(5), api.OK)
	checkLoad(t, m, by(api.PLoad+api.PTake), 1, inner, api.OK)
	checkLoad(t, m, by(api.PLoad+api.PPut), 1, aNumber(0), api.OK)
	checkLoad(t, m, by(api.PAll-api.PTake), 1, aNumber(0), api.OK)
	checkLoad(t, m, by(api.PAll-api.PLoad), 0, api.Val{}, api.ErrPerm)
	checkLoad(t, m, by(api.PTake), 1, api.Val{}, api.ErrPerm)
	checkLoad(t, m, by(api.PStore), 0, api.Val{}, api.ErrPerm)
	checkLoad(t, m, by(0), 0, api.Val{}, api.ErrPerm)

	checkStore(t, m, by(api.PStore), 0, aNumber(6), 0, api.OK)
	checkStore(t, m, by(api.PStore), 1, aNumber(6), 1, api.OK) // over a key
	checkStore(t, m, by(api.PStore), 0, inner, 0, api.ErrPerm)
	checkStore(t, m, by(api.PStore), 1, inner, 1, api.ErrPerm) // also where it lies already
	checkStore(t, m, by(api.PStore+api.PPut), 0, aNumber(6), 0, api.OK)
	checkStore(t, m, by(api.PStore+api.PPut), 0, inner, 0, api.OK)
	checkStore(t, m, by(api.PStore+api.PTake), 0, inner, 0, api.ErrPerm)
	checkStore(t, m, by(api.PAll-api.PPut), 0, inner, 0, api.ErrPerm)
	checkStore(t, m, by(api.PAll-api.PStore), 0, aNumber(6), 0, api.ErrPerm)
	checkStore(t, m, by(api.PPut), 0, inner, 0, api.ErrPerm)
	checkStore(t, m, by(api.PLoad), 0, aNumber(6), 0, api.ErrPerm)
	checkStore(t, m, by(0), 0, aNumber(6), 0, api.ErrPerm)
}

func TestSealedKeysReachNothing(t *testing.T) {
	for seal := 1; seal <= 63; seal++ {
		for perm := range 128 { // also where it would not be allowed
			for off := -3; off <= 5; off++ { // also where it would be out of range
				k := api.Key{Perm: perm, Base: 1, Len: 3, At: 2, Seal: seal}
				checkBoth(t, cells(4), k, off, 0, api.ErrSealed)
			}
		}
	}
}

func TestWrongKeysReachNothing(t *testing.T) {
	for _, k := range []api.Key{
		{Perm: -1, Len: 4}, {Perm: 128, Len: 4}, {Perm: 255, Len: 4}, {Perm: math.MaxInt, Len: 4}, {Perm: math.MinInt, Len: 4},
		{Perm: 127, Base: -1, Len: 4}, {Perm: 127, Base: 401}, {Perm: 127, Base: 1, Len: 400, At: 1}, {Perm: 127, Base: math.MinInt, Len: math.MaxInt}, {Perm: 127, Base: 1, Len: math.MaxInt, At: 1},
		{Perm: 127, Len: -1}, {Perm: 127, Len: 401}, {Perm: 127, Len: math.MaxInt}, {Perm: 127, Len: math.MinInt},
		{Perm: 127, Len: 4, At: -1}, {Perm: 127, Len: 4, At: 401}, {Perm: 127, Len: 4, At: math.MaxInt}, {Perm: 127, Len: 4, At: math.MinInt},
		{Perm: 127, Len: 4, Seal: -1}, {Perm: 127, Len: 4, Seal: 64}, {Perm: 127, Len: 4, Seal: math.MinInt},
	} {
		for _, off := range append([]int{0, 1, -1, 2, 3, 4, -400, -401, -397, -399}, far()...) {
			checkBoth(t, cells(4), k, off, 0, api.ErrArg)
		}
	}
}
