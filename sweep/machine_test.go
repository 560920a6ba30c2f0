package sweep

import (
	"fmt"
	"slices"
	"testing"

	"custodian/api"
)

func aNumber(n int) api.Val  { return api.Val{N: n} }
func aKey(k api.Key) api.Val { return api.Val{Is: true, Key: k} }

// numbers answers n numbers that all differ, as values. Most of them would be cells.
func numbers(n int) []api.Val {
	l := make([]api.Val, n)
	for at := range l {
		l[at] = aNumber(at - 3)
	}
	return l
}

// told answers n numbers that all differ.
func told(n int) []int {
	l := make([]int, n)
	for i := range l {
		l[i] = 195 + i
	}
	return l
}

// frames answers n frames that all differ, at each second one two keys. None is for a cell from 200 on.
func frames(n int) []api.Frame {
	l := make([]api.Frame, n)
	for i := range l {
		l[i] = api.Frame{Code: api.Key{Perm: api.PExec, Base: i, Len: 20 + i, At: 205}, Data: aNumber(200 + i)}
		if i%2 == 1 {
			l[i].Data = aKey(api.Key{Perm: api.PStore, Base: 30 + i, Len: i, At: 207})
		}
	}
	return l
}

// rich answers a machine with something in each of its parts, also keys, none of which is for a cell from 200 on,
// though numbers, permissions, seals and places have such numbers.
func rich() api.Machine {
	m := api.Machine{Code: api.Key{Perm: api.PExec, Base: 3, Len: 40, At: 205}, Mem: numbers(60), Stack: frames(5), Out: told(12)}
	m.Regs = [8]api.Val{
		aNumber(200), aKey(api.Key{Perm: api.PAll, Len: 200, At: 200}), aNumber(-1), aKey(api.Key{Perm: 3, Base: 205, At: 205}),
		aNumber(0), aKey(api.Key{}), aKey(api.Key{Perm: 64, Base: 199, Len: 1, At: 201, Seal: 9}), aNumber(205),
	}
	m.Mem[7] = aKey(api.Key{Perm: api.PLoad, Base: 100, Len: 100, At: 200, Seal: 63})
	m.Mem[50] = aKey(api.Key{Base: 400, At: 400})
	m.Mem[59] = aKey(api.Key{Perm: api.PSeal, Base: 7, Len: 1, At: 7})
	return m
}

// place is where a machine may have a key: how it comes there, and what is there when it was taken away.
type place struct {
	name string
	put  func(m *api.Machine, k api.Key)
	take func(m *api.Machine)
}

// spot answers the place where what at answers is a value.
func spot(name string, at func(m *api.Machine) *api.Val) place {
	return place{
		name,
		func(m *api.Machine, k api.Key) { *at(m) = aKey(k) },
		func(m *api.Machine) { *at(m) = aNumber(0) },
	}
}

// code answers the place where what at answers is a key.
func code(name string, at func(m *api.Machine) *api.Key) place {
	return place{
		name,
		func(m *api.Machine, k api.Key) { *at(m) = k },
		func(m *api.Machine) { *at(m) = api.Key{} },
	}
}

// places has all places of a machine that has as many cells and frames as m.
func places(m api.Machine) []place {
	l := []place{code("Code", func(m *api.Machine) *api.Key { return &m.Code })}
	for r := range m.Regs {
		l = append(l, spot(fmt.Sprint("register ", r), func(m *api.Machine) *api.Val { return &m.Regs[r] }))
	}
	for at := range m.Mem {
		l = append(l, spot(fmt.Sprint("cell ", at), func(m *api.Machine) *api.Val { return &m.Mem[at] }))
	}
	for i := range m.Stack {
		l = append(l, code(fmt.Sprint("Code of frame ", i), func(m *api.Machine) *api.Key { return &m.Stack[i].Code }))
		l = append(l, spot(fmt.Sprint("Data of frame ", i), func(m *api.Machine) *api.Val { return &m.Stack[i].Data }))
	}
	return l
}

// twin answers a copy of m that shares nothing with it.
func twin(m api.Machine) api.Machine {
	m.Mem, m.Stack, m.Out = slices.Clone(m.Mem), slices.Clone(m.Stack), slices.Clone(m.Out)
	return m
}

// whole answers a copy of m in which the room behind each list is part of it.
func whole(m api.Machine) api.Machine {
	m.Mem, m.Stack, m.Out = m.Mem[:cap(m.Mem)], m.Stack[:cap(m.Stack)], m.Out[:cap(m.Out)]
	return twin(m)
}

func same(a, b api.Machine) bool {
	return a.Regs == b.Regs && a.Code == b.Code && slices.Equal(a.Mem, b.Mem) && slices.Equal(a.Stack, b.Stack) && slices.Equal(a.Out, b.Out)
}

// sweeps wants Sweep to answer want, and count, and Has to say so. What was swept has none, and stays as it is.
func sweeps(t *testing.T, m api.Machine, base, n int, want api.Machine, count int) {
	t.Helper()
	was := whole(m)
	if got, many, e := Sweep(m, base, n); e != api.OK || many != count || !same(got, want) {
		t.Fatalf("Sweep from %d on, %d cells = %+v, %d, %d\nwant %+v, %d\nof %+v", base, n, got, many, e, want, count, m)
	}
	if has, e := Has(m, base, n); e != api.OK || has != (count > 0) {
		t.Fatalf("Has from %d on, %d cells = %t, %d, but %d are struck\nof %+v", base, n, has, e, count, m)
	}
	if !same(whole(m), was) {
		t.Fatalf("Sweep or Has from %d on, %d cells, changed %+v", base, n, m)
	}
	if got, many, e := Sweep(want, base, n); e != api.OK || many != 0 || !same(got, want) {
		t.Fatalf("Sweep once more from %d on, %d cells = %+v, %d, %d\nof %+v", base, n, got, many, e, want)
	}
	if has, e := Has(want, base, n); e != api.OK || has {
		t.Fatalf("Has from %d on, %d cells, of what was swept = %t, %d\nof %+v", base, n, has, e, want)
	}
}

// stays wants nothing to be struck.
func stays(t *testing.T, m api.Machine, base, n int) {
	t.Helper()
	sweeps(t, m, base, n, twin(m), 0)
}

// strikes wants a key to be struck, or not to be, wherever it is in a machine that has no other one that is.
func strikes(t *testing.T, k api.Key, base, n int, want bool) {
	t.Helper()
	bare := api.Machine{Mem: numbers(2), Stack: make([]api.Frame, 2), Out: told(1)}
	for _, p := range places(bare) {
		m := twin(bare)
		p.put(&m, k)
		after := twin(m)
		count := 0
		if want {
			p.take(&after)
			count = 1
		}
		sweeps(t, m, base, n, after, count)
	}
}

// refused wants the error of both calls, and nothing beside it.
func refused(t *testing.T, m api.Machine, base, n int, want api.Errno) {
	t.Helper()
	was := whole(m)
	got, many, e := Sweep(m, base, n)
	if e != want || many != 0 || !same(got, api.Machine{}) || got.Mem != nil || got.Stack != nil || got.Out != nil {
		t.Fatalf("Sweep from %d on, %d cells = %+v, %d, %d, want nothing beside %d\nof %+v", base, n, got, many, e, want, m)
	}
	if has, e := Has(m, base, n); e != want || has {
		t.Fatalf("Has from %d on, %d cells = %t, %d, want nothing beside %d\nof %+v", base, n, has, e, want, m)
	}
	if !same(whole(m), was) {
		t.Fatalf("what was handed in has changed: %+v", m)
	}
}
