package reach

import (
	"slices"
	"testing"

	"custodian/api"
)

// ordered has lists of keys as they are to be told: of each two that stand behind each other one field decides, and all
// that count after it say otherwise.
var ordered = [][]api.Key{
	{{Base: 3, Len: 9, Perm: 9, Seal: 9, At: 9}, {Base: 4, Len: 8, Perm: 8, Seal: 8, At: 8}, {Base: 10}, {Base: 100}, {Base: 400}},
	{{Base: 7, Len: 3, Perm: 9, Seal: 9, At: 9}, {Base: 7, Len: 4, Perm: 8, Seal: 8, At: 8}, {Base: 7, Len: 10}, {Base: 7, Len: 100}, {Base: 7, Len: 393}},
	{
		{Base: 7, Len: 3, Perm: 3, Seal: 9, At: 9}, {Base: 7, Len: 3, Perm: 4, Seal: 8, At: 8}, {Base: 7, Len: 3, Perm: 10},
		{Base: 7, Len: 3, Perm: 100}, {Base: 7, Len: 3, Perm: 127},
	},
	{
		{Base: 7, Len: 3, Perm: 3, Seal: 0, At: 9}, {Base: 7, Len: 3, Perm: 3, Seal: 1, At: 8}, {Base: 7, Len: 3, Perm: 3, Seal: 2},
		{Base: 7, Len: 3, Perm: 3, Seal: 10}, {Base: 7, Len: 3, Perm: 3, Seal: 63},
	},
	{
		{Base: 7, Len: 3, Perm: 3, Seal: 1, At: 0}, {Base: 7, Len: 3, Perm: 3, Seal: 1, At: 3}, {Base: 7, Len: 3, Perm: 3, Seal: 1, At: 10},
		{Base: 7, Len: 3, Perm: 3, Seal: 1, At: 100}, {Base: 7, Len: 3, Perm: 3, Seal: 1, At: 400},
	},
	{
		{}, {At: 1}, {Seal: 1}, {Perm: 1}, {Len: 1}, {Base: 1},
	},
	{
		{Base: 1, Len: 2, Perm: 3, Seal: 4, At: 6}, {Base: 1, Len: 2, Perm: 3, Seal: 5, At: 5}, {Base: 1, Len: 2, Perm: 4, Seal: 4, At: 5},
		{Base: 1, Len: 3, Perm: 3, Seal: 4, At: 5}, {Base: 2, Len: 2, Perm: 3, Seal: 4, At: 5},
	},
}

// Wherever the keys are, and in whatever order they are found, they are told in theirs.
func TestOrder(t *testing.T) {
	for _, want := range ordered {
		for turn := range want {
			given := append(slices.Clone(want[turn:]), want[:turn]...)
			for range 2 {
				for _, deep := range both {
					l, e := Keys(holdingAll(given), deep)
					if e != api.OK || !slices.Equal(l, want) {
						t.Errorf("Keys, deep %t = %+v, %d\nwant %+v", deep, l, e, want)
					}
				}
				slices.Reverse(given)
			}
		}
	}
}

// holdingAll answers a machine with these keys and no other one: one is Code, the others are in registers.
func holdingAll(l []api.Key) api.Machine {
	m := holder(0, l[1:]...)
	m.Code = l[0]
	return m
}

// Many keys, in cells whose order is not theirs: no stride has a factor in common with how many they are.
func TestOrderOfMany(t *testing.T) {
	var want []api.Key
	for _, base := range []int{0, 1, 399} {
		for _, n := range []int{0, 1} {
			for _, perm := range []int{0, 2, 127} {
				for _, by := range []int{1, 2, 63} {
					for at := range 7 {
						want = append(want, api.Key{Perm: perm, Base: base, Len: n, At: at * 57, Seal: by})
					}
				}
			}
		}
	}
	all := taker(0, 400) // no other one has so many cells: of those from 0 on it is the last one
	place, _ := slices.BinarySearchFunc(want, api.Key{Base: 1}, func(a, b api.Key) int { return slices.Compare(row(a), row(b)) })
	for _, stride := range []int{1, 5, 11, 25, 211, 377} {
		m := api.Machine{Code: all, Mem: numbers(len(want))}
		for i := range want {
			m.Mem[i] = aKey(want[(i*stride+stride)%len(want)])
		}
		if l, e := Keys(m, false); e != api.OK || !slices.Equal(l, slices.Insert(slices.Clone(want), place, all)) {
			t.Errorf("stride %d: Keys = %+v, %d", stride, l, e)
		}
	}
}
