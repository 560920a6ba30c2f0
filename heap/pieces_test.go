package heap

import (
	"math"
	"slices"
	"strconv"
	"strings"
	"testing"

	"custodian/api"
)

// lay answers pieces one behind the other, from base on, as text tells them: "f5 g2 b1" is five cells that are free,
// two that are given, and one that was given back. It does not look whether they may be.
func lay(base int, text string) []api.Piece {
	l := []api.Piece{}
	for _, word := range strings.Fields(text) {
		n, err := strconv.Atoi(word[1:])
		if err != nil {
			panic(err)
		}
		l = append(l, api.Piece{Base: base, Len: n, State: strings.Index("fgb", word[:1])})
		base += n
	}
	return l
}

// many answers n pieces of one cell each from base on, given ones and ones that were given back by turns.
func many(base, n int) []api.Piece {
	l := []api.Piece{}
	for i := range n {
		l = append(l, api.Piece{Base: base + i, Len: 1, State: 1 + i%2})
	}
	return l
}

// heaps has heaps of many kinds, all of which may be.
func heaps() [][]api.Piece {
	l := [][]api.Piece{nil, {}, many(0, 30), many(370, 30), many(5, 29), append(many(5, 29), lay(34, "f300")...)}
	for _, text := range []string{
		"f1", "g1", "b1", "f400", "g400", "b400", "f20", "g20", "b20",
		"f5 g5", "g5 f5", "f5 b5", "b5 f5", "g5 g5", "b5 b5", "g5 b5", "b5 g5",
		"f1 g2 f3 b4 f5 g6 b7 f8 g9 g10 b11 b12 f13", "b1 f2 b3 f4 b5", "f2 b1 b2 b3 f1 g1 b1 b1", "b5 b5 b5", "g1 f9 g1 f8 g1 f9", "g3 b3 g3 b3 g3",
	} {
		l = append(l, lay(0, text))
		if n := length(lay(0, text)); n < 400 {
			l = append(l, lay(400-n, text), lay(1, text))
		}
	}
	return l
}

// wrong is a list of pieces that is no heap, and why.
type wrong struct {
	l []api.Piece
	e api.Errno
}

// wrongs has lists that are no heap, by each error of Check.
func wrongs() []wrong {
	return []wrong{
		{many(0, 31), api.ErrLarge}, {make([]api.Piece, 31), api.ErrLarge}, {many(0, 399), api.ErrLarge},
		{[]api.Piece{{}}, api.ErrArg}, {[]api.Piece{{Base: -1, Len: 5, State: 1}}, api.ErrArg}, {[]api.Piece{{Base: 399, Len: 2}}, api.ErrArg},
		{[]api.Piece{{Len: 5, State: 3}}, api.ErrArg}, {[]api.Piece{{Base: 5, Len: math.MaxInt, State: 2}}, api.ErrArg},
		{append(lay(0, "f5 g5"), api.Piece{Base: 10, State: 2}), api.ErrArg}, {append(lay(0, "f9 g9 b9"), lay(27, "f374")...), api.ErrArg},
		{lay(0, "f5 f5"), api.ErrForm}, {lay(0, "g5 b5 f1 f1 g1"), api.ErrForm}, {append(lay(0, "f5 g5"), lay(11, "f5")...), api.ErrForm},
		{append(lay(9, "g5 b5"), lay(9, "g5")...), api.ErrForm}, {append(many(1, 29), lay(29, "g5")...), api.ErrForm},
	}
}

func TestHeapsAreWhatTheyAreTakenFor(t *testing.T) {
	for _, l := range heaps() {
		checks(t, l, api.OK)
	}
	for _, w := range wrongs() {
		checks(t, w.l, w.e)
	}
}

// length answers how many cells the pieces have.
func length(l []api.Piece) int {
	n := 0
	for _, p := range l {
		n += p.Len
	}
	return n
}

// whole answers a copy of l in which the room behind it is part of it.
func whole(l []api.Piece) []api.Piece { return slices.Clone(l[:cap(l)]) }

// stays wants what is done not to change l, nor what lies behind it.
func stays(t *testing.T, l []api.Piece, do func()) {
	t.Helper()
	was := whole(l)
	do()
	if !slices.Equal(whole(l), was) {
		t.Fatalf("what was handed in has changed\nfrom %v\nto   %v", was, whole(l))
	}
}

func checks(t *testing.T, l []api.Piece, want api.Errno) {
	t.Helper()
	stays(t, l, func() {
		if e := Check(l); e != want {
			t.Fatalf("Check(%v) = %d, want %d", l, e, want)
		}
	})
}

// made wants an answer of pieces, and that they are a heap.
func made(t *testing.T, call string, got []api.Piece, e api.Errno, want []api.Piece) {
	t.Helper()
	if e != api.OK || !slices.Equal(got, want) {
		t.Fatalf("%s = %v, %d\nwant %v, 0", call, got, e, want)
	}
	if e := Check(got); e != api.OK {
		t.Fatalf("%s = %v, which is no heap: %d", call, got, e)
	}
}

// nothing wants an error, and no pieces beside it.
func nothing(t *testing.T, call string, got []api.Piece, e, want api.Errno) {
	t.Helper()
	if e != want || got != nil {
		t.Fatalf("%s = %v, %d, want nothing beside %d", call, got, e, want)
	}
}

// gives wants n cells from base on to be given, and what the heap is then.
func gives(t *testing.T, l []api.Piece, n, base int, want []api.Piece) {
	t.Helper()
	stays(t, l, func() {
		got, k, e := Give(l, n)
		made(t, call("Give", l, n), got, e, want)
		if k != (api.Key{Perm: 27, Base: base, Len: n, At: base}) {
			t.Fatalf("%s answers the key %+v, want one for %d cells from %d on", call("Give", l, n), k, n, base)
		}
	})
}

func refusesToGive(t *testing.T, l []api.Piece, n int, want api.Errno) {
	t.Helper()
	stays(t, l, func() {
		got, k, e := Give(l, n)
		nothing(t, call("Give", l, n), got, e, want)
		if k != (api.Key{}) {
			t.Fatalf("%s answers the key %+v beside %d", call("Give", l, n), k, e)
		}
	})
}

func takesBack(t *testing.T, l []api.Piece, base int, want []api.Piece) {
	t.Helper()
	stays(t, l, func() {
		got, e := Back(l, base)
		made(t, call("Back", l, base), got, e, want)
	})
}

func refusesToTakeBack(t *testing.T, l []api.Piece, base int, want api.Errno) {
	t.Helper()
	stays(t, l, func() {
		got, e := Back(l, base)
		nothing(t, call("Back", l, base), got, e, want)
	})
}

func cleans(t *testing.T, l, want []api.Piece) {
	t.Helper()
	stays(t, l, func() {
		got, e := Clean(l)
		made(t, call("Clean", l), got, e, want)
	})
}

func refusesToClean(t *testing.T, l []api.Piece, want api.Errno) {
	t.Helper()
	stays(t, l, func() {
		got, e := Clean(l)
		nothing(t, call("Clean", l), got, e, want)
	})
}

// call tells a call and what was handed in.
func call(name string, l []api.Piece, numbers ...int) string {
	var b strings.Builder
	b.WriteString(name + "([")
	for _, p := range l {
		b.WriteString(" " + strconv.Itoa(p.Base) + "+" + strconv.Itoa(p.Len) + "/" + strconv.Itoa(p.State))
	}
	b.WriteString(" ]")
	for _, n := range numbers {
		b.WriteString(", " + strconv.Itoa(n))
	}
	return b.String() + ")"
}
