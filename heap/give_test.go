package heap

import (
	"math"
	"slices"
	"testing"

	"custodian/api"
)

// few are numbers of cells of which there must be at least one.
var few = []int{0, -1, -2, -5, -400, math.MinInt, math.MinInt + 1, math.MinInt + 5, -1 << 32, -1<<32 + 5, api.MinNumber}

// much are more cells than there are.
var much = []int{401, 402, 1000, 1 << 16, 1<<16 + 1, 1 << 31, 1 << 32, 1<<32 + 1, 1<<32 + 5, 1 << 62, math.MaxInt, math.MaxInt - 1, math.MaxInt - 399}

func TestGiveOfOneFreePiece(t *testing.T) {
	gives(t, lay(10, "f20"), 1, 10, lay(10, "g1 f19"))
	gives(t, lay(10, "f20"), 5, 10, lay(10, "g5 f15"))
	gives(t, lay(10, "f20"), 19, 10, lay(10, "g19 f1"))
	gives(t, lay(10, "f20"), 20, 10, lay(10, "g20"))
	refusesToGive(t, lay(10, "f20"), 21, api.ErrNone)
	gives(t, lay(0, "f1"), 1, 0, lay(0, "g1"))
	gives(t, lay(399, "f1"), 1, 399, lay(399, "g1"))
	gives(t, lay(0, "f400"), 400, 0, lay(0, "g400"))
	gives(t, lay(0, "f400"), 399, 0, lay(0, "g399 f1"))
}

func TestGiveOfEachSize(t *testing.T) {
	for have := 1; have <= 400; have++ {
		l := lay(400-have, "f1")
		l[0].Len = have
		for n := 1; n < have; n++ {
			want := []api.Piece{{Base: 400 - have, Len: n, State: 1}, {Base: 400 - have + n, Len: have - n}}
			gives(t, l, n, 400-have, want)
		}
		gives(t, l, have, 400-have, []api.Piece{{Base: 400 - have, Len: have, State: 1}})
		refusesToGive(t, l, have+1, api.ErrNone)
	}
}

// What is wrong with the pieces is told first, whatever n is.
func TestGiveOfNoHeap(t *testing.T) {
	for _, w := range wrongs() {
		for _, n := range append([]int{1, 5, 400}, append(few, much...)...) {
			refusesToGive(t, w.l, n, w.e)
		}
	}
}

// That n is below 1 is told ahead of there being no room, and of there being too many pieces.
func TestGiveOfTooFew(t *testing.T) {
	for _, l := range append(heaps(), append(many(0, 29), lay(29, "f5")...)) {
		for _, n := range few {
			refusesToGive(t, l, n, api.ErrArg)
		}
	}
}

func TestGiveOfMoreThanThereAre(t *testing.T) {
	for _, l := range heaps() {
		for _, n := range much {
			refusesToGive(t, l, n, api.ErrNone)
		}
	}
}

// What is given, or was given back, is not given, however many cells it has, nor are such ones together with free ones.
func TestGiveWithoutRoom(t *testing.T) {
	for _, l := range [][]api.Piece{nil, {}, many(0, 30), many(0, 5), lay(0, "g400"), lay(0, "b400"), lay(9, "g1"), lay(9, "b1"), lay(9, "b5 b5"), lay(9, "g5 b5")} {
		for n := 1; n <= 400; n++ {
			refusesToGive(t, l, n, api.ErrNone)
		}
	}
	for _, text := range []string{"f4 b9 f4", "f4 g9 f4", "b9 f4 b9", "f1 b1 f2 b2 f3 b3 f4 b4", "f4 b1 f4 g1 f4", "f4 b9", "b9 f4", "f4 g9", "g9 f4"} {
		refusesToGive(t, lay(7, text), 5, api.ErrNone)
		refusesToGive(t, lay(7, text), 9, api.ErrNone)
	}
}

// It is the first one that has n cells or more, not the one that fits best, nor the greatest.
func TestGiveOfTheFirstThatIsLargeEnough(t *testing.T) {
	for _, c := range []struct {
		text    string
		n, base int
		want    string
	}{
		{"f4 g1 f6 g1 f5 g1 f9", 5, 5, "f4 g1 g5 f1 g1 f5 g1 f9"},
		{"f4 g1 f6 g1 f5 g1 f9", 4, 0, "g4 g1 f6 g1 f5 g1 f9"},
		{"f4 g1 f6 g1 f5 g1 f9", 3, 0, "g3 f1 g1 f6 g1 f5 g1 f9"},
		{"f4 g1 f6 g1 f5 g1 f9", 6, 5, "f4 g1 g6 g1 f5 g1 f9"},
		{"f4 g1 f6 g1 f5 g1 f9", 7, 18, "f4 g1 f6 g1 f5 g1 g7 f2"},
		{"f4 g1 f6 g1 f5 g1 f9", 9, 18, "f4 g1 f6 g1 f5 g1 g9"},
		{"f5 b1 f5 g1 f5", 5, 0, "g5 b1 f5 g1 f5"},
		{"g5 b1 f5 g1 f5", 5, 6, "g5 b1 g5 g1 f5"},
		{"b9 g9 f9", 2, 18, "b9 g9 g2 f7"},
		{"f9 b9 g9", 2, 0, "g2 f7 b9 g9"},
		{"b9 f9 b9", 9, 9, "b9 g9 b9"},
		{"b9 f9 b9", 8, 9, "b9 g8 f1 b9"},
	} {
		for _, first := range []int{0, 1, 300} {
			gives(t, lay(first, c.text), c.n, first+c.base, lay(first, c.want))
		}
	}
}

// A free piece of each of 29 heaps is given, in one and in two.
func TestGiveAtEachPlace(t *testing.T) {
	for at := range 29 {
		l := many(3, 29)
		l[at].State, l[at].Len = 0, 7
		for i := at + 1; i < 29; i++ {
			l[i].Base += 6
		}
		all := slices.Clone(l)
		all[at].State = 1
		gives(t, l, 7, 3+at, all)
		gives(t, l, 6, 3+at, slices.Concat(l[:at], lay(3+at, "g6 f1"), l[at+1:]))
	}
}

// full answers 30 pieces of which the one at is free, and has n cells.
func full(at, n int) []api.Piece {
	l := append(many(0, at), api.Piece{Base: at, Len: n})
	return append(l, many(at+n, 29-at)...)
}

func TestGiveOfThirtyPieces(t *testing.T) {
	for at := range 30 {
		l := full(at, 9)
		want := full(at, 9)
		want[at].State = 1
		gives(t, l, 9, at, want)
		for n := 1; n < 9; n++ {
			refusesToGive(t, l, n, api.ErrFull)
		}
		for _, n := range append([]int{10}, much...) {
			refusesToGive(t, l, n, api.ErrNone)
		}
		for _, n := range few {
			refusesToGive(t, l, n, api.ErrArg)
		}
	}
}

// The first that is large enough is the one, also where another one would need no new piece.
func TestGiveOfThirtyPiecesIsNotOfALaterOne(t *testing.T) {
	l := full(10, 9)
	l[20].State = 0
	refusesToGive(t, l, 1, api.ErrFull)
	refusesToGive(t, l, 8, api.ErrFull)
	l[5].State = 0
	want := slices.Clone(l)
	want[5].State = 1
	gives(t, l, 1, 5, want)
	refusesToGive(t, l, 2, api.ErrFull)
}

// From 29 pieces there may be 30.
func TestGiveUpToThirtyPieces(t *testing.T) {
	l := append(many(0, 28), lay(28, "f9")...)
	want := append(many(0, 28), lay(28, "g4 f5")...)
	gives(t, l, 4, 28, want)
	refusesToGive(t, want, 4, api.ErrFull)
	gives(t, want, 5, 32, append(many(0, 28), lay(28, "g4 g5")...))
}

// One after the other is given, till there is no room for one more piece, or none at all.
func TestGiveTillItIsFull(t *testing.T) {
	l, _ := New(100, 40)
	for i := range 29 {
		want := append(slices.Clone(l[:i]), api.Piece{Base: 100 + i, Len: 1, State: 1}, api.Piece{Base: 101 + i, Len: 39 - i})
		gives(t, l, 1, 100+i, want)
		l = want
	}
	refusesToGive(t, l, 1, api.ErrFull)
	refusesToGive(t, l, 12, api.ErrNone)
	want := slices.Clone(l)
	want[29].State = 1
	gives(t, l, 11, 129, want)
	refusesToGive(t, want, 1, api.ErrNone)
}
