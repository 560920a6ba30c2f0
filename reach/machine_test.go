package reach

import (
	"math"
	"slices"
	"testing"

	"custodian/api"
)

func aNumber(n int) api.Val  { return api.Val{N: n} }
func aKey(k api.Key) api.Val { return api.Val{Is: true, Key: k} }

// both is what deep may be.
var both = []bool{false, true}

// allowed has all that a key may allow, from nothing on.
func allowed() []int {
	l := make([]int, 128)
	for p := range l {
		l[p] = p
	}
	return l
}

// beyond is what no key allows, on both sides of what one may. Some of it would be right if it were cut to fewer bits.
var beyond = []int{
	-1, -2, -8, -127, -128, 128, 129, 136, 255, 256, 265, 1 << 15, 1 << 16, 1 << 31, -1 << 31, 1 << 32, 1<<32 + 1, -1 << 32, 1<<62 + 3,
	math.MaxInt, math.MaxInt - 127, math.MinInt, math.MinInt + 1, math.MinInt + 9,
}

// numbers answers a memory of n cells with numbers that all differ.
func numbers(n int) []api.Val {
	m := make([]api.Val, n)
	for at := range m {
		m[at] = aNumber(at - 20)
	}
	return m
}

// holder answers a machine with n cells, and with the keys in its registers from the first one on.
func holder(n int, l ...api.Key) api.Machine {
	m := api.Machine{Code: running, Mem: numbers(n)}
	for r, k := range l {
		m.Regs[r] = aKey(k)
	}
	return m
}

// running is Code of the machines of the tests, where a test has no other one: nothing is come to by it.
var running = api.Key{Perm: api.PExec, Len: 2, At: 1}

// frames answers n frames whose keys all differ, at each second one two of them. Nothing more is come to by them.
func frames(n int) []api.Frame {
	l := make([]api.Frame, n)
	for i := range l {
		l[i] = api.Frame{Code: api.Key{Perm: api.PExec, Base: i, Len: 20 + i, At: 2 * i}, Data: aNumber(500 + i)}
		if i%2 == 1 {
			l[i].Data = aKey(api.Key{Perm: api.PStore, Base: 30 + i, Len: i, At: 30})
		}
	}
	return l
}

// twin answers a copy of m that shares nothing with it.
func twin(m api.Machine) api.Machine {
	m.Mem, m.Stack, m.Out = slices.Clone(m.Mem), slices.Clone(m.Stack), slices.Clone(m.Out)
	return m
}

// whole answers a copy of m in which the room behind each list is part of it.
func whole(m api.Machine) api.Machine {
	m.Mem, m.Stack, m.Out = m.Mem[:cap(m.Mem)], m.Stack[:cap(m.Stack)], m.Out[:cap(m.Out)]
	return twin(m)
}

func same(a, b api.Machine) bool {
	return a.Regs == b.Regs && a.Code == b.Code && slices.Equal(a.Mem, b.Mem) && slices.Equal(a.Stack, b.Stack) && slices.Equal(a.Out, b.Out)
}

// row answers the fields of a key, in the order in which keys are held against each other.
func row(k api.Key) []int { return []int{k.Base, k.Len, k.Perm, k.Seal, k.At} }

func inOrder(l []api.Key) []api.Key {
	l = slices.Clone(l)
	slices.SortFunc(l, func(a, b api.Key) int { return slices.Compare(row(a), row(b)) })
	return l
}

// usable answers the numbers from first to last for which one of the keys is, that counts and allows all of p.
func usable(l []api.Key, p, first, last int, deep bool) []int {
	var all []int
	for at := first; at <= last; at++ {
		if slices.ContainsFunc(l, func(k api.Key) bool { return (deep || k.Seal == 0) && hasAll(k.Perm, p) && isFor(k, at) }) {
			all = append(all, at)
		}
	}
	return all
}

func hasAll(perm, p int) bool { return perm&p == p }

func isFor(k api.Key, at int) bool { return k.Base <= at && at < k.Base+k.Len }

// checkKeys wants Keys to answer these, whatever their order, once each.
func checkKeys(t *testing.T, m api.Machine, deep bool, want []api.Key) {
	t.Helper()
	want = inOrder(want)
	was := whole(m)
	for range 2 {
		if l, e := Keys(m, deep); e != api.OK || !slices.Equal(l, want) {
			t.Fatalf("Keys, deep %t = %+v, %d\nwant %+v\nof %+v", deep, l, e, want, m)
		}
	}
	if !same(whole(m), was) {
		t.Fatalf("Keys, deep %t, changed %+v", deep, m)
	}
}

// checkPlaces wants Cells and Seals to answer these.
func checkPlaces(t *testing.T, m api.Machine, p int, deep bool, cells, seals []int) {
	t.Helper()
	was := whole(m)
	for range 2 {
		if l, e := Cells(m, p, deep); e != api.OK || !slices.Equal(l, cells) {
			t.Fatalf("Cells, p %d, deep %t = %v, %d, want %v\nof %+v", p, deep, l, e, cells, m)
		}
		if l, e := Seals(m, p, deep); e != api.OK || !slices.Equal(l, seals) {
			t.Fatalf("Seals, p %d, deep %t = %v, %d, want %v\nof %+v", p, deep, l, e, seals, m)
		}
	}
	if !same(whole(m), was) {
		t.Fatalf("Cells or Seals, p %d, deep %t, changed %+v", p, deep, m)
	}
}

// finds wants the machine to have these keys, and wants of Cells and Seals, for these p, what follows from that.
func finds(t *testing.T, m api.Machine, deep bool, ps []int, want ...api.Key) {
	t.Helper()
	checkKeys(t, m, deep, want)
	for _, p := range ps {
		checkPlaces(t, m, p, deep, usable(want, p, 0, len(m.Mem)-1, deep), usable(want, p, 1, 63, deep))
	}
}

// some is a few p, for the tests that are about which keys a machine has.
var some = []int{0, api.PLoad, api.PStore, api.PExec, api.PLoad + api.PTake, api.PSeal + api.POpen, api.PAll, -1, 128}

// findsAlways wants the same keys with deep and without.
func findsAlways(t *testing.T, m api.Machine, want ...api.Key) {
	t.Helper()
	for _, deep := range both {
		finds(t, m, deep, some, want...)
	}
}

// refused wants the error of all three calls, and nothing beside it, whatever p and deep are.
func refused(t *testing.T, m api.Machine, want api.Errno) {
	t.Helper()
	was := whole(m)
	for _, deep := range both {
		if l, e := Keys(m, deep); e != want || l != nil {
			t.Fatalf("Keys, deep %t = %+v, %d, want nothing beside %d\nof %+v", deep, l, e, want, m)
		}
		for _, p := range some {
			if l, e := Cells(m, p, deep); e != want || l != nil {
				t.Fatalf("Cells, p %d, deep %t = %v, %d, want nothing beside %d\nof %+v", p, deep, l, e, want, m)
			}
			if l, e := Seals(m, p, deep); e != want || l != nil {
				t.Fatalf("Seals, p %d, deep %t = %v, %d, want nothing beside %d\nof %+v", p, deep, l, e, want, m)
			}
		}
	}
	if !same(whole(m), was) {
		t.Fatalf("what was handed in has changed: %+v", m)
	}
}
