package keys

import (
	"math"
	"math/big"
	"testing"

	"custodian/api"
)

func checkCovers(t *testing.T, k api.Key, at int, want bool) {
	t.Helper()
	if got := Covers(k, at); got != want {
		t.Errorf("Covers(%+v, %d) = %v, want %v", k, at, got, want)
	}
}

func TestCoversWrittenOut(t *testing.T) {
	for _, c := range []struct {
		base, n, at int
		want        bool
	}{
		{10, 20, 10, true}, {10, 20, 9, false}, {10, 20, 29, true}, {10, 20, 30, false}, {10, 20, 15, true}, {10, 20, 0, false}, {10, 20, -10, false}, {10, 20, 400, false},
		{10, 1, 10, true}, {10, 1, 9, false}, {10, 1, 11, false}, {10, 0, 10, false}, {10, 0, 9, false}, {10, 0, 11, false},
		{0, 400, 0, true}, {0, 400, 399, true}, {0, 400, -1, false}, {0, 400, 400, false}, {400, 0, 400, false}, {399, 1, 399, true}, {399, 1, 400, false},
		{0, 400, math.MaxInt, false}, {0, 400, math.MinInt, false}, {10, 20, math.MaxInt, false}, {10, 20, math.MinInt, false}, {10, 20, math.MinInt + 10, false}, {10, 20, 1<<32 + 15, false},
		// keys that Check refuses
		{10, -1, 10, false}, {10, -1, 9, false}, {10, -5, 7, false}, {10, math.MinInt, 10, false}, {10, math.MinInt, 5, false}, {-5, 3, -5, true}, {-5, 3, -3, true}, {-5, 3, -2, false}, {-5, 3, -6, false},
		{math.MaxInt, 1, math.MaxInt, true}, {math.MaxInt, 1, math.MinInt, false}, {math.MaxInt, 5, math.MaxInt, true}, {math.MaxInt, 5, math.MinInt, false}, {math.MaxInt - 1, 5, math.MaxInt, true},
		{math.MaxInt, math.MaxInt, math.MaxInt, true}, {math.MaxInt, math.MaxInt, 0, false}, {10, math.MaxInt, 10, true}, {10, math.MaxInt, math.MaxInt, true}, {10, math.MaxInt, 9, false}, {10, math.MaxInt, math.MinInt, false},
		{0, math.MaxInt, math.MaxInt, false}, {0, math.MaxInt, math.MaxInt - 1, true}, {1, math.MaxInt, math.MaxInt, true}, {-1, math.MaxInt, math.MaxInt - 1, false}, {-1, math.MaxInt, math.MaxInt - 2, true},
		{math.MinInt, 1, math.MinInt, true}, {math.MinInt, 1, math.MaxInt, false}, {math.MinInt, 1, math.MinInt + 1, false}, {math.MinInt, math.MaxInt, -2, true}, {math.MinInt, math.MaxInt, -1, false}, {math.MinInt, math.MaxInt, math.MaxInt, false},
		{math.MinInt, 400, 0, false}, {math.MinInt, 400, math.MaxInt, false}, {math.MinInt, math.MinInt, math.MinInt, false},
	} {
		// neither what is allowed nor where it is nor a seal counts
		checkCovers(t, api.Key{Base: c.base, Len: c.n}, c.at, c.want)
		checkCovers(t, api.Key{Perm: 127, Base: c.base, Len: c.n, At: c.at, Seal: 63}, c.at, c.want)
		checkCovers(t, api.Key{Perm: -1, Base: c.base, Len: c.n, At: math.MinInt, Seal: math.MaxInt}, c.at, c.want)
	}
}

func TestCoversEachCell(t *testing.T) {
	for _, k := range []api.Key{{Base: 10, Len: 20}, {Len: 400}, {Base: 400}, {Base: 7}, {Base: 7, Len: 1}, {Base: 398, Len: 2}} {
		cells := map[int]bool{}
		for i := 0; i < k.Len; i++ {
			cells[k.Base+i] = true
		}
		for at := -500; at <= 900; at++ {
			checkCovers(t, k, at, cells[at])
		}
		for _, at := range far {
			checkCovers(t, k, at, cells[at])
		}
	}
}

// ends answers the first cell and the one behind the last, as numbers that do not wrap round.
func ends(k api.Key) (first, behind *big.Int) {
	first = big.NewInt(int64(k.Base))
	return first, new(big.Int).Add(first, big.NewInt(int64(k.Len)))
}

var wide = []int{
	math.MinInt, math.MinInt + 1, math.MinInt + 5, -1 << 62, -2, -1, 0, 1, 2, 5, 399, 400, 401, 1 << 32, 1 << 62, 1<<62 + 1, math.MaxInt - 5, math.MaxInt - 1, math.MaxInt,
}

func TestCoversAtAnySize(t *testing.T) {
	for _, base := range wide {
		for _, n := range wide {
			k := api.Key{Base: base, Len: n}
			first, behind := ends(k)
			for _, place := range wide {
				at := big.NewInt(int64(place))
				checkCovers(t, k, place, at.Cmp(first) >= 0 && at.Cmp(behind) < 0)
			}
		}
	}
}

func checkUnder(t *testing.T, a, b api.Key, want bool) {
	t.Helper()
	if got := Under(a, b); got != want {
		t.Errorf("Under(%+v, %+v) = %v, want %v", a, b, got, want)
	}
}

func TestUnderByCells(t *testing.T) {
	for _, c := range []struct {
		aBase, aLen, bBase, bLen int
		want                     bool
	}{
		{10, 20, 10, 20, true}, {15, 4, 10, 20, true}, {10, 4, 10, 20, true}, {26, 4, 10, 20, true}, {10, 1, 10, 20, true}, {29, 1, 10, 20, true},
		{9, 20, 10, 20, false}, {11, 20, 10, 20, false}, {10, 21, 10, 20, false}, {9, 21, 10, 20, false}, {9, 22, 10, 20, false}, {9, 1, 10, 20, false}, {30, 1, 10, 20, false}, {29, 2, 10, 20, false}, {0, 400, 10, 20, false},
		{10, 20, 15, 4, false}, {10, 20, 0, 400, true}, {0, 5, 100, 5, false}, {100, 5, 0, 5, false},
		{0, 400, 0, 400, true}, {399, 1, 0, 400, true}, {0, 1, 0, 400, true},
		// without cells
		{0, 0, 10, 20, true}, {9, 0, 10, 20, true}, {10, 0, 10, 20, true}, {15, 0, 10, 20, true}, {30, 0, 10, 20, true}, {31, 0, 10, 20, true}, {400, 0, 10, 20, true},
		{0, 0, 0, 0, true}, {7, 0, 300, 0, true}, {400, 0, 0, 0, true}, {0, 0, 400, 0, true}, {10, 1, 10, 0, false}, {10, 20, 10, 0, false}, {10, 1, 9, 0, false}, {0, 1, 0, 0, false},
		// keys that Check refuses
		{-5, 0, 10, 20, true}, {math.MinInt, 0, 10, 20, true}, {math.MaxInt, 0, 10, 20, true}, {401, 0, 0, 0, true}, {0, -1, 10, 20, true}, {math.MaxInt, math.MinInt, 10, 0, true}, {math.MinInt, math.MinInt, 10, 0, true},
		{10, 1, 10, -1, false}, {10, 1, 11, -1, false}, {10, 1, 10, math.MinInt, false}, {math.MaxInt, math.MaxInt, 10, 20, false}, {10, math.MaxInt, 10, 20, false}, {math.MaxInt, 1, 10, 20, false}, {math.MinInt, math.MaxInt, 10, 20, false},
		{10, 20, 0, math.MaxInt, true}, {10, 20, math.MinInt, math.MaxInt, false}, {-30, 20, math.MinInt, math.MaxInt, true}, {-30, 29, math.MinInt, math.MaxInt, true}, {-30, 30, math.MinInt, math.MaxInt, false},
		{math.MaxInt, math.MaxInt, math.MaxInt, math.MaxInt, true}, {math.MaxInt, math.MaxInt, math.MaxInt - 1, math.MaxInt, false}, {math.MaxInt, math.MaxInt - 1, math.MaxInt - 1, math.MaxInt, true},
		{math.MaxInt, 1, math.MaxInt, 1, true}, {math.MaxInt, 2, math.MaxInt, 1, false}, {math.MinInt, 1, math.MaxInt, 2, false}, {math.MaxInt, 1, math.MinInt, math.MaxInt, false},
	} {
		a, b := api.Key{Base: c.aBase, Len: c.aLen}, api.Key{Base: c.bBase, Len: c.bLen}
		checkUnder(t, a, b, c.want)
		// where they are does not count
		for _, at := range []int{0, c.aBase, c.bBase, 400, -1, math.MaxInt, math.MinInt} {
			a.At, b.At = at, 400
			checkUnder(t, a, b, c.want)
			a.At, b.At = 3, at
			checkUnder(t, a, b, c.want)
		}
	}
}

// Cells that are written out one by one say which of two small keys has all of the other one.
func TestUnderCellByCell(t *testing.T) {
	cells := func(k api.Key) map[int]bool {
		all := map[int]bool{}
		for i := 0; i < k.Len; i++ {
			all[k.Base+i] = true
		}
		return all
	}
	var small []api.Key
	for base := -2; base <= 6; base++ {
		for n := -2; n <= 6; n++ {
			small = append(small, api.Key{Base: base, Len: n})
		}
	}
	for _, a := range small {
		for _, b := range small {
			has, want := cells(b), true
			for cell := range cells(a) {
				want = want && has[cell]
			}
			checkUnder(t, a, b, want)
		}
	}
}

func TestUnderAtAnySize(t *testing.T) {
	var keys []api.Key
	for _, base := range wide {
		for _, n := range wide {
			keys = append(keys, api.Key{Base: base, Len: n})
		}
	}
	for _, a := range keys {
		first, behind := ends(a)
		for _, b := range keys {
			bFirst, bBehind := ends(b)
			checkUnder(t, a, b, a.Len <= 0 || first.Cmp(bFirst) >= 0 && behind.Cmp(bBehind) <= 0)
		}
	}
}

// allowed has what can be allowed, one by one, as the document lists it.
var allowed = []int{api.PLoad, api.PStore, api.PExec, api.PTake, api.PPut, api.PSeal, api.POpen}

func TestUnderByPermissions(t *testing.T) {
	for p := 0; p <= 127; p++ {
		for q := 0; q <= 127; q++ {
			want := true
			for _, one := range allowed {
				want = want && (p/one%2 == 0 || q/one%2 == 1)
			}
			a, b := plain(), plain()
			a.Perm, b.Perm = p, q
			checkUnder(t, a, b, want)
			a.Base, a.Len = 300, 0 // what a key without cells allows counts all the same
			checkUnder(t, a, b, want)
		}
	}
	for _, one := range allowed {
		a, b := plain(), plain()
		a.Perm, b.Perm = one, api.PAll-one
		checkUnder(t, a, b, false)
		checkUnder(t, b, a, false)
		a.Perm, b.Perm = one, one
		checkUnder(t, a, b, true)
		a.Perm, b.Perm = 0, one
		checkUnder(t, a, b, true)
		checkUnder(t, b, a, false)
	}
}

func TestUnderByPermissionsThatMayNotBe(t *testing.T) {
	for _, c := range []struct {
		a, b int
		want bool
	}{
		{127, -1, true}, {-1, 127, false}, {-1, -1, true}, {128, 127, false}, {128, 128, true}, {0, 128, true}, {5, 1<<32 + 5, true}, {1<<32 + 5, 5, false},
		{math.MinInt, -1, true}, {math.MinInt, math.MaxInt, false}, {math.MaxInt, -1, true}, {127, math.MaxInt, true}, {1, math.MinInt, false}, {0, math.MinInt, true}, {1, -2, false},
	} {
		a, b := plain(), plain()
		a.Perm, b.Perm = c.a, c.b
		checkUnder(t, a, b, c.want)
	}
}

func TestUnderBySeals(t *testing.T) {
	for s := 0; s <= 63; s++ {
		for by := 0; by <= 63; by++ {
			a, b := plain(), plain()
			a.Seal, b.Seal = s, by
			checkUnder(t, a, b, s == by || by == 0)
			a.Base, a.Len = 300, 0
			checkUnder(t, a, b, s == by || by == 0)
		}
	}
	for _, c := range []struct {
		a, b int
		want bool
	}{
		{-1, 0, true}, {0, -1, false}, {-1, -1, true}, {-1, 1, false}, {64, 0, true}, {0, 64, false}, {64, 64, true}, {1<<32 + 5, 5, false}, {5, 1<<32 + 5, false}, {0, 1 << 32, false},
		{math.MinInt, 0, true}, {0, math.MinInt, false}, {math.MinInt, math.MinInt, true}, {math.MaxInt, 0, true}, {0, math.MaxInt, false}, {math.MaxInt, math.MinInt, false},
	} {
		a, b := plain(), plain()
		a.Seal, b.Seal = c.a, c.b
		checkUnder(t, a, b, c.want)
	}
}

// What one of the three does not have, the other two do not make good.
func TestUnderNeedsAllThree(t *testing.T) {
	b := api.Key{Perm: 7, Base: 10, Len: 20, At: 15, Seal: 5}
	less := api.Key{Perm: 5, Base: 12, Len: 3, At: 0, Seal: 5}
	checkUnder(t, less, b, true)
	for _, change := range []func(k *api.Key){
		func(k *api.Key) { k.Perm = 8 },
		func(k *api.Key) { k.Len = 19 },
		func(k *api.Key) { k.Base = 9 },
		func(k *api.Key) { k.Seal = 0 },
		func(k *api.Key) { k.Seal = 6 },
	} {
		more := less
		change(&more)
		checkUnder(t, more, b, false)
	}
}
