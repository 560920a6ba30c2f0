package run

import (
	"math"
	"slices"
	"testing"

	"custodian/api"
	"custodian/prog"
)

func aNumber(n int) api.Val  { return api.Val{N: n} }
func aKey(k api.Key) api.Val { return api.Val{Is: true, Key: k} }

// start answers a machine that is at the first cell of a program, by a key for its cells alone.
func start(text string) api.Machine {
	code, _, _, e := prog.Read(text)
	if e != api.OK {
		panic(text) // no test means to have one that is wrong
	}
	m := api.Machine{Code: api.Key{Perm: api.PExec, Len: len(code)}}
	for _, n := range code {
		m.Mem = append(m.Mem, aNumber(n))
	}
	return m
}

// frames answers n frames that all differ.
func frames(n int) []api.Frame {
	l := make([]api.Frame, n)
	for i := range l {
		l[i] = api.Frame{Code: api.Key{Perm: api.PExec, Base: i, Len: 20 + i, At: 2 * i}, Data: aNumber(500 + i)}
	}
	return l
}

// told answers n numbers that all differ.
func told(n int) []int {
	l := make([]int, n)
	for i := range l {
		l[i] = 7000 + i
	}
	return l
}

// upTo answers the numbers from 0 on, n of them.
func upTo(n int) []int {
	l := make([]int, n)
	for i := range l {
		l[i] = i
	}
	return l
}

// goodFuels and wrongFuels are what fuel may be, and may not, at the edges and far beyond them.
// Some of the wrong ones would be right ones if they were cut to fewer bits.
var (
	goodFuels  = []int{0, 1, 2, 4999, 5000}
	wrongFuels = []int{
		-1, -2, -5000, 5001, 5002, 10000, 1 << 15, 1 << 16, 1<<16 + 1, 1 << 31, -1 << 31, 1 << 32, 1<<32 + 1, 1<<32 + 5000, -1 << 32, 1 - 1<<32,
		math.MaxInt, math.MaxInt - 5000, math.MinInt, math.MinInt + 1, math.MinInt + 5000,
	}
)

// ending is a machine that can't go on, and why.
type ending struct {
	name string
	m    api.Machine
	e    api.Errno
}

// wholeList answers a copy of a list in which the room behind it is part of it.
func wholeList[T any](list []T) []T { return slices.Clone(list[:cap(list)]) }

// whole answers a copy of m in which the room behind each list is part of it.
func whole(m api.Machine) api.Machine {
	m.Mem, m.Stack, m.Out = wholeList(m.Mem), wholeList(m.Stack), wholeList(m.Out)
	return m
}

// twin answers a copy of m that shares nothing with it.
func twin(m api.Machine) api.Machine {
	m.Mem, m.Stack, m.Out = slices.Clone(m.Mem), slices.Clone(m.Stack), slices.Clone(m.Out)
	return m
}

func same(a, b api.Machine) bool {
	return a.Regs == b.Regs && a.Code == b.Code && slices.Equal(a.Mem, b.Mem) && slices.Equal(a.Stack, b.Stack) && slices.Equal(a.Out, b.Out)
}

func allZero(m api.Machine) bool {
	return same(m, api.Machine{}) && m.Mem == nil && m.Stack == nil && m.Out == nil
}

// refused wants the error of Run and of Places alike, and nothing beside it.
func refused(t *testing.T, m api.Machine, fuel int, want api.Errno) {
	t.Helper()
	was := whole(m)
	if got, n, e := Run(m, fuel); e != want || n != 0 || !allZero(got) {
		t.Fatalf("Run, fuel %d = %+v, %d, %d, want nothing beside %d", fuel, got, n, e, want)
	}
	if l, e := Places(m, fuel); e != want || l != nil {
		t.Fatalf("Places, fuel %d = %v, %d, want nothing beside %d", fuel, l, e, want)
	}
	if !same(whole(m), was) {
		t.Fatalf("fuel %d: what was handed in has changed", fuel)
	}
}

// ends wants a run that comes by these places, one for each step that it does, and then ends so.
// It is done twice, since nothing is kept.
func ends(t *testing.T, m api.Machine, fuel int, want api.Machine, places []int, why api.Errno) {
	t.Helper()
	was := whole(m)
	for range 2 {
		got, n, e := Run(m, fuel)
		if e != why || n != len(places) {
			t.Fatalf("Run, fuel %d = %d steps, %d, want %d, %d", fuel, n, e, len(places), why)
		}
		if !same(got, want) {
			t.Fatalf("Run, fuel %d = %+v\nwant %+v", fuel, got, want)
		}
		l, e := Places(m, fuel)
		if e != api.OK || !slices.Equal(l, places) {
			t.Fatalf("Places, fuel %d = %v, %d, want %v", fuel, l, e, places)
		}
	}
	if !same(whole(m), was) {
		t.Fatalf("fuel %d: what was handed in has changed", fuel)
	}
}
