package heap

import (
	"slices"
	"testing"

	"custodian/api"
	"custodian/keys"
)

// dice are numbers that look thrown, and are the same in each run.
type dice uint64

// upTo answers a number below n.
func (d *dice) upTo(n int) int {
	*d = *d*6364136223846793005 + 1442695040888963407
	return int(uint64(*d) >> 33 % uint64(n))
}

func pick[T any](d *dice, all ...T) T { return all[d.upTo(len(all))] }

// pieces answers pieces one behind the other, seldom with something wrong at one of them.
func (d *dice) pieces() []api.Piece {
	var l []api.Piece
	at := d.upTo(30)
	for range pick(d, 0, 1, 2, 3, 5, 8, 13, 28, 29, 30, 31) {
		p := api.Piece{Base: at, Len: 1 + d.upTo(pick(d, 1, 5, 12)), State: d.upTo(3)}
		if len(l) > 0 && p.State == 0 && l[len(l)-1].State == 0 && d.upTo(30) > 0 {
			p.State = 1 + d.upTo(2)
		}
		switch d.upTo(150) {
		case 0:
			p.State = pick(d, badStates...)
		case 1:
			odd := pick(d, bad...)
			p.Base, p.Len = odd.Base, odd.Len
		case 2:
			p.Base += pick(d, -1, 1, 50)
		}
		l = append(l, p)
		at += p.Len
	}
	return l
}

// cellsOf answers which state each cell has, by the pieces; -1, if it is in none of them.
func cellsOf(l []api.Piece) [400]int {
	var all [400]int
	for at := range all {
		all[at] = -1
		for _, p := range l {
			if p.Base <= at && at < p.Base+p.Len {
				all[at] = p.State
			}
		}
	}
	return all
}

// isHeap says what P26 says of Check, read once more.
func isHeap(l []api.Piece) api.Errno {
	if len(l) >= 31 {
		return api.ErrLarge
	}
	for i := range l {
		p := l[i]
		if p.Base < 0 || p.Base > 400 || p.Len <= 0 || p.Len > 400 || p.Base+p.Len > 400 || p.State != 0 && p.State != 1 && p.State != 2 {
			return api.ErrArg
		}
		if i == 0 {
			continue
		}
		if q := l[i-1]; q.Base+q.Len != p.Base || q.State+p.State == 0 {
			return api.ErrForm
		}
	}
	return api.OK
}

func TestChecksAsTheModelDoes(t *testing.T) {
	d := dice(1)
	seen := map[api.Errno]int{}
	for range 100000 {
		l := d.pieces()
		want := isHeap(l)
		checks(t, l, want)
		seen[want]++
	}
	for _, e := range []api.Errno{api.OK, api.ErrArg, api.ErrLarge, api.ErrForm} {
		if seen[e] < 1000 {
			t.Errorf("the pieces are not wild enough: %v", seen)
		}
	}
}

// modelGive says what P27 says of Give, read once more, of pieces that are a heap and of an n that may be.
func modelGive(l []api.Piece, n int) ([]api.Piece, int, api.Errno) {
	for i, p := range l {
		if p.State != 0 || p.Len < n {
			continue
		}
		made := slices.Clone(l)
		made[i].State = 1
		if p.Len > n {
			made[i].Len = n
			made = slices.Insert(made, i+1, api.Piece{Base: p.Base + n, Len: p.Len - n})
		}
		if len(made) > 30 {
			return nil, 0, api.ErrFull
		}
		return made, p.Base, api.OK
	}
	return nil, 0, api.ErrNone
}

func TestGivesAsTheModelDoes(t *testing.T) {
	d := dice(2)
	seen := map[api.Errno]int{}
	for range 100000 {
		l, n := d.pieces(), d.upTo(15)-1
		want, base, e := modelGive(l, n)
		if n < 1 {
			e = api.ErrArg
		}
		if wrong := isHeap(l); wrong != api.OK {
			e = wrong
		}
		seen[e]++
		if e != api.OK {
			refusesToGive(t, l, n, e)
			continue
		}
		gives(t, l, n, base, want)
	}
	for _, e := range []api.Errno{api.OK, api.ErrArg, api.ErrLarge, api.ErrForm, api.ErrNone, api.ErrFull} {
		if seen[e] < 300 {
			t.Errorf("the heaps are not wild enough: %v", seen)
		}
	}
}

func TestTakesBackAsTheModelDoes(t *testing.T) {
	d := dice(3)
	seen := map[api.Errno]int{}
	for range 100000 {
		l, base := d.pieces(), d.upTo(80)-2
		want, e := slices.Clone(l), api.ErrNone
		for i, p := range l {
			if p.Base == base && p.State == 1 {
				want[i].State, e = 2, api.OK
			}
		}
		if wrong := isHeap(l); wrong != api.OK {
			e = wrong
		}
		seen[e]++
		if e != api.OK {
			refusesToTakeBack(t, l, base, e)
			continue
		}
		takesBack(t, l, base, want)
	}
	for _, e := range []api.Errno{api.OK, api.ErrArg, api.ErrLarge, api.ErrForm, api.ErrNone} {
		if seen[e] < 1000 {
			t.Errorf("the heaps are not wild enough: %v", seen)
		}
	}
}

// modelClean paints cell by cell: where pieces begin that are given, and where what is free begins and ends.
func modelClean(l []api.Piece) []api.Piece {
	var made []api.Piece
	for at, state := range cellsOf(l) {
		begins := state == 1 && slices.ContainsFunc(l, func(p api.Piece) bool { return p.Base == at })
		switch {
		case state < 0:
		case state == 1 && begins:
			made = append(made, api.Piece{Base: at, Len: 1, State: 1})
		case state != 1 && (len(made) == 0 || made[len(made)-1].State == 1):
			made = append(made, api.Piece{Base: at, Len: 1})
		default:
			made[len(made)-1].Len++
		}
	}
	return made
}

func TestCleansAsTheModelDoes(t *testing.T) {
	d := dice(4)
	seen := map[api.Errno]int{}
	for range 30000 {
		l := d.pieces()
		e := isHeap(l)
		seen[e]++
		if e != api.OK {
			refusesToClean(t, l, e)
			continue
		}
		cleans(t, l, modelClean(l))
	}
	for _, e := range []api.Errno{api.OK, api.ErrArg, api.ErrLarge, api.ErrForm} {
		if seen[e] < 300 {
			t.Errorf("the heaps are not wild enough: %v", seen)
		}
	}
}

// life is a heap that is used, and what was given of it and is not free again.
type life struct {
	d    *dice
	l    []api.Piece
	held []api.Key // given, and not given back
	gone []api.Key // given back, and not cleaned
	seen map[api.Errno]int
}

func (f *life) give(t *testing.T) {
	l, k, e := Give(f.l, 1+f.d.upTo(25))
	f.seen[e]++
	if e != api.OK {
		return
	}
	if keys.Check(k) != api.OK || k.Seal != 0 || k.At != k.Base || k.Perm != api.PLoad+api.PStore+api.PTake+api.PPut {
		t.Fatalf("%+v is given", k)
	}
	for _, old := range slices.Concat(f.held, f.gone) {
		if k.Base < old.Base+old.Len && old.Base < k.Base+k.Len {
			t.Fatalf("%+v is given, though %+v is: %v", k, old, f.l)
		}
	}
	f.l, f.held = l, append(f.held, k)
}

func (f *life) back(t *testing.T) {
	if len(f.held) == 0 {
		return
	}
	i := f.d.upTo(len(f.held))
	k := f.held[i]
	l, e := Back(f.l, k.Base)
	if e != api.OK {
		t.Fatalf("%+v is not taken back: %d: %v", k, e, f.l)
	}
	f.l, f.gone, f.held = l, append(f.gone, k), slices.Delete(f.held, i, i+1)
}

func (f *life) clean(t *testing.T) {
	l, e := Clean(f.l)
	if e != api.OK {
		t.Fatalf("it is not cleaned: %d: %v", e, f.l)
	}
	f.l, f.gone = l, nil
}

// What is given has no cell in common with what was given ahead of it, and no cell comes or goes.
func TestLives(t *testing.T) {
	d := dice(5)
	seen := map[api.Errno]int{}
	for range 500 {
		base, n := d.upTo(100), 1+d.upTo(300)
		first, e := New(base, n)
		if e != api.OK {
			t.Fatalf("New(%d, %d) = %d", base, n, e)
		}
		f := &life{d: &d, l: first, seen: seen}
		for range 150 {
			switch d.upTo(12) {
			case 0:
				f.clean(t)
			case 1, 2, 3, 4:
				f.back(t)
			default:
				f.give(t)
			}
			checks(t, f.l, api.OK)
			if f.l[0].Base != base || length(f.l) != n {
				t.Fatalf("of %d cells from %d on there are left %v", n, base, f.l)
			}
		}
		for len(f.held) > 0 {
			f.back(t)
		}
		cleans(t, f.l, first)
	}
	if seen[api.OK] < 5000 || seen[api.ErrNone] < 500 || seen[api.ErrFull] < 100 {
		t.Errorf("the lives are not wild enough: %v", seen)
	}
}
