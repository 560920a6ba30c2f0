package sweep

import (
	"testing"

	"custodian/api"
)

// meets says whether a key is for one of the cells, gone through one by one.
func meets(k api.Key, base, n int) bool {
	for at := base; at < base+n; at++ {
		if k.Base <= at && at < k.Base+k.Len {
			return true
		}
	}
	return false
}

func TestStrikes(t *testing.T) {
	for _, c := range []struct {
		base, n, from, many int
		want                bool
	}{
		{10, 20, 15, 5, true}, {10, 20, 10, 20, true}, {15, 5, 10, 20, true}, // within, the same, over all
		{10, 20, 5, 6, true}, {10, 20, 5, 10, true}, {10, 20, 29, 5, true}, {10, 20, 25, 10, true}, // from both sides into it
		{10, 20, 5, 5, false}, {10, 20, 30, 5, false}, {10, 20, 9, 1, false}, {10, 20, 0, 10, false}, {10, 20, 30, 370, false}, // just ahead, just behind
		{10, 20, 4, 5, false}, {10, 20, 31, 5, false}, {10, 20, 0, 1, false}, {10, 20, 399, 1, false},
		{10, 20, 9, 2, true}, {10, 20, 29, 1, true}, {10, 20, 10, 1, true}, {10, 20, 0, 400, true}, {10, 20, 0, 11, true}, {10, 20, 29, 371, true},
		{10, 1, 10, 1, true}, {10, 1, 9, 1, false}, {10, 1, 11, 1, false}, {10, 1, 9, 3, true}, {10, 1, 9, 2, true}, {10, 1, 10, 2, true},
		{0, 1, 0, 1, true}, {0, 1, 0, 400, true}, {0, 1, 1, 399, false}, {0, 400, 0, 1, true}, {0, 400, 399, 1, true}, {0, 400, 0, 400, true},
		{399, 1, 399, 1, true}, {399, 1, 0, 399, false}, {399, 1, 0, 400, true}, {399, 1, 398, 1, false},
		{5, 2, 6, 1, true}, {5, 2, 7, 1, false}, {5, 2, 4, 1, false}, {5, 2, 5, 1, true},
	} {
		for _, at := range []int{0, c.base, c.from, c.from + c.many, 400} {
			strikes(t, api.Key{Perm: 3, Base: c.base, Len: c.n, At: at}, c.from, c.many, c.want)
		}
	}
}

// A key without cells is for none, wherever it is.
func TestKeysWithoutCells(t *testing.T) {
	for base := range 401 {
		k := api.Key{Perm: 127, Base: base, At: base}
		for _, c := range []cells{{0, 400}, {base, 0}, {base, 400 - base}, {0, base}, {max(base-1, 0), 1}, {base / 2, 100}} {
			strikes(t, k, c.base, c.n, false)
		}
	}
}

// Where there are no cells, none is struck.
func TestRangesWithoutCells(t *testing.T) {
	for base := range 401 {
		for _, k := range []api.Key{{Perm: 127, Len: 400, At: base}, {Perm: 3, Base: base, Len: 400 - base}, {Len: base}, {Base: max(base-1, 0), Len: 1}, {}} {
			strikes(t, k, base, 0, false)
		}
		stays(t, rich(), base, 0)
	}
}

// All small keys with all small ranges, from both ends of what may be.
func TestCellByCell(t *testing.T) {
	const most = 7
	for _, first := range []int{0, 400 - most} {
		for base := range most + 1 {
			for n := range most + 1 - base {
				for from := range most + 1 {
					for many := range most + 1 - from {
						k := api.Key{Perm: 3, Base: first + base, Len: n, At: 1}
						strikes(t, k, first+from, many, meets(k, first+from, many))
					}
				}
			}
		}
	}
}

// Each cell alone, and all but it, with keys for some and for one.
func TestEachCell(t *testing.T) {
	for at := range 400 {
		for _, k := range []api.Key{{Perm: 1, Base: 100, Len: 50, At: 399}, {Perm: 1, Len: 1}, {Perm: 1, Base: 399, Len: 1}, {Perm: 1, Len: 400}, {Perm: 1, Base: at, Len: 1}} {
			strikes(t, k, at, 1, meets(k, at, 1))
			strikes(t, k, 0, at, meets(k, 0, at))
			strikes(t, k, at+1, 399-at, meets(k, at+1, 399-at))
		}
	}
}

// Whatever it allows, sealed or not: neither counts, and no more does where it is.
func TestNeitherPermNorSealNorAtCounts(t *testing.T) {
	for perm := range 128 {
		for _, by := range []int{0, 1, 2, 31, 62, 63} {
			strikes(t, api.Key{Perm: perm, Base: 10, Len: 20, At: 29, Seal: by}, 25, 10, true)
			strikes(t, api.Key{Perm: perm, Base: 10, Len: 20, At: 30, Seal: by}, 30, 10, false)
		}
	}
	for by := range 64 {
		strikes(t, api.Key{Perm: 5, Base: 10, Len: 20, At: 9, Seal: by}, 25, 10, true)
		strikes(t, api.Key{Perm: 5, Base: 10, Len: 20, At: 25, Seal: by}, 30, 10, false)
		strikes(t, api.Key{Perm: 5, Base: 100, Len: 20, At: 5, Seal: by}, 1, 63, false) // by what it is sealed is no cell of it
	}
	for at := range 401 {
		strikes(t, api.Key{Perm: 127, Base: 10, Len: 20, At: at}, 25, 10, true)
		strikes(t, api.Key{Perm: 127, Base: 10, Len: 20, At: at}, at, min(1, 400-at), at >= 10 && at < 30)
	}
}

// A key by which one seals is for its seals as it is for cells: it is struck with these.
func TestKeysThatSeal(t *testing.T) {
	for _, perm := range []int{api.PSeal, api.POpen, api.PSeal + api.POpen} {
		for by := 1; by <= 63; by++ {
			k := api.Key{Perm: perm, Base: by, Len: 1, At: by}
			strikes(t, k, by, 1, true)
			strikes(t, k, by-1, 1, false)
			strikes(t, k, by+1, 300, false)
			strikes(t, k, 0, 64, true)
			strikes(t, k, 64, 336, false)
		}
	}
}

// Keys for cells that the memory has not are struck as others are, and so are those for some that it has and some that it has not.
func TestKeysBeyondTheMemory(t *testing.T) {
	for _, n := range []int{0, 1, 10, 60} {
		for _, c := range []struct {
			k    api.Key
			want bool
		}{
			{api.Key{Perm: 3, Base: 300, Len: 1}, true}, {api.Key{Perm: 3, Base: 250, Len: 100}, true}, {api.Key{Perm: 3, Len: 301}, true},
			{api.Key{Perm: 3, Base: 300, Len: 100}, true}, {api.Key{Perm: 3, Len: 300}, false}, {api.Key{Perm: 3, Base: 302, Len: 98}, false},
		} {
			start := api.Machine{Mem: numbers(n), Stack: make([]api.Frame, 1)}
			for _, p := range places(start) {
				m := twin(start)
				p.put(&m, c.k)
				if !c.want {
					stays(t, m, 300, 2)
					continue
				}
				want := twin(m)
				p.take(&want)
				sweeps(t, m, 300, 2, want, 1)
			}
		}
	}
}
