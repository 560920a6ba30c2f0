package mem

import (
	"slices"
	"testing"

	"custodian/api"
)

// fill makes all cells v, those of the room behind the last one too.
func fill(m []api.Val, v api.Val) {
	for i := range m[:cap(m)] {
		m[:cap(m)][i] = v
	}
}

func TestStoreSharesNothing(t *testing.T) {
	k := api.Key{Perm: 127, Len: 400}
	for _, n := range []int{1, 2, 3, 8, 100, 400} {
		for _, room := range []int{0, 1, 5, 1000} {
			for _, at := range []int{0, n / 2, n - 1} {
				checkShares(t, append(make([]api.Val, 0, n+room), cells(n)...), k, at)
			}
		}
	}
}

// checkShares writes over all of the answer, then over all that was handed in, and looks at the other one.
func checkShares(t *testing.T, m []api.Val, k api.Key, at int) {
	t.Helper()
	was := slices.Clone(m[:cap(m)])
	got, e := Store(m, k, at, aNumber(12345))
	again, e2 := Store(m, k, at, aNumber(12345))
	if e != api.OK || e2 != api.OK || !slices.Equal(got, again) {
		t.Fatalf("Store(%d cells, %+v, %d) = %d, and then %d", len(m), k, at, e, e2)
	}
	want := slices.Clone(got)
	fill(got, aNumber(-5))
	if !slices.Equal(m[:cap(m)], was) {
		t.Errorf("Store(%d cells of %d, %+v, %d): what is done to the answer is done to the memory", len(m), cap(m), k, at)
	}
	if !slices.Equal(again, want) {
		t.Errorf("Store(%d cells of %d, %+v, %d): two answers share memory", len(m), cap(m), k, at)
	}
	fill(m, aNumber(-6))
	if !slices.Equal(again, want) {
		t.Errorf("Store(%d cells of %d, %+v, %d): what is done to the memory is done to the answer", len(m), cap(m), k, at)
	}
}

// Also where what is stored lies there already the answer is a memory of its own.
func TestStoreOfWhatLiesThereSharesNothing(t *testing.T) {
	m := cells(5)
	for at, v := range cells(5) {
		got, e := Store(m, api.Key{Perm: 127, Len: 5}, at, v)
		if e != api.OK || !slices.Equal(got, m) {
			t.Fatalf("Store of what lies at %d = %+v, %d", at, got, e)
		}
		fill(got, aNumber(-5))
		if !slices.Equal(m, cells(5)) {
			t.Fatalf("Store of what lies at %d: the answer is the memory that was handed in", at)
		}
	}
}

// What was stored is loaded, the other cells are as they were, and it is a memory that may be.
func TestWhatWasStoredIsLoaded(t *testing.T) {
	k := api.Key{Perm: 127, Len: 400, At: 7}
	was := cells(50)
	for at := range was {
		for _, v := range things {
			m, e := Store(was, k, at-7, v)
			if e != api.OK || Check(m) != api.OK {
				t.Fatalf("Store at %d = %d, and Check of it %d", at, e, Check(m))
			}
			for other := range was {
				want := was[other]
				if other == at {
					want = v
				}
				checkLoad(t, m, k, other-7, want, api.OK)
			}
		}
	}
}

// Stores behind each other each find what the one ahead of them made.
func TestStoresBehindEachOther(t *testing.T) {
	m := make([]api.Val, 400)
	want := cells(400)
	for at, v := range want {
		next, e := Store(m, api.Key{Perm: api.PStore + api.PPut, Base: at, Len: 1, At: at}, 0, v)
		if e != api.OK {
			t.Fatalf("Store at %d = %d", at, e)
		}
		m = next
	}
	if !slices.Equal(m, want) {
		t.Errorf("400 stores made %+v", m)
	}
}
