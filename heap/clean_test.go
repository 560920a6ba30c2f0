package heap

import (
	"slices"
	"testing"

	"custodian/api"
)

func TestCleanWrittenOut(t *testing.T) {
	for _, c := range []struct{ text, want string }{
		{"", ""}, {"f5", "f5"}, {"g5", "g5"}, {"b5", "f5"}, {"b400", "f400"}, {"b1", "f1"},
		{"f5 g5", "f5 g5"}, {"g5 f5", "g5 f5"}, {"g5 g5", "g5 g5"}, {"f5 g5 f5", "f5 g5 f5"}, {"g5 f5 g5", "g5 f5 g5"}, {"g1 g2 g3", "g1 g2 g3"}, // nothing to clean
		{"g5 b5", "g5 f5"}, {"b5 g5", "f5 g5"}, {"g5 b5 g5", "g5 f5 g5"}, {"b5 g5 b5", "f5 g5 f5"}, {"b1 g1 b1 g1 b1", "f1 g1 f1 g1 f1"}, // beside given ones
		{"f5 b6", "f11"}, {"b6 f5", "f11"}, {"f5 b6 f7", "f18"}, {"f1 b2 f3 b4 f5", "f15"}, {"g1 f5 b6 f7 g1", "g1 f18 g1"}, // between free ones
		{"g1 b2 f3", "g1 f5"}, {"f3 b2 g1", "f5 g1"}, {"b2 f3 g1", "f5 g1"}, {"g1 f3 b2", "g1 f5"},
		{"b5 b6", "f11"}, {"b5 b6 b7", "f18"}, {"b100 b100 b100 b100", "f400"}, {"g1 b5 b6 b7 g1", "g1 f18 g1"}, // several side by side
		{"f1 b5 b6 b7", "f19"}, {"b5 b6 b7 f1", "f19"}, {"f1 b5 b6 f1 b7 f1", "f21"}, {"f1 b5 b6 g1 b7 f1", "f12 g1 f8"}, {"b1 b2 g3 g4 b5 b6", "f3 g3 g4 f11"},
		{"f1 g2 f3 b4 f5 g6 b7 f8 g9 g10 b11 b12 f13", "f1 g2 f12 g6 f15 g9 g10 f36"},
	} {
		l := lay(0, c.text)
		for _, first := range []int{0, 1, 300, 400 - length(l)} {
			if first+length(l) <= 400 {
				cleans(t, lay(first, c.text), lay(first, c.want))
			}
		}
	}
}

func TestCleanOfNothing(t *testing.T) {
	cleans(t, nil, nil)
	cleans(t, []api.Piece{}, nil)
}

func TestCleanOfNoHeap(t *testing.T) {
	for _, w := range wrongs() {
		refusesToClean(t, w.l, w.e)
	}
}

// Of what is clean already nothing is changed.
func TestCleanOnceMore(t *testing.T) {
	for _, l := range heaps() {
		clean, e := Clean(l)
		if e != api.OK {
			t.Fatalf("%s = %d", call("Clean", l), e)
		}
		cleans(t, clean, clean)
	}
}

// All cells of 30 pieces are one free piece when they were given back, in whatever order.
func TestCleanOfThirtyPieces(t *testing.T) {
	for _, step := range []int{1, 7, 11, 29} {
		l := many(20, 30)
		for i := range l {
			l[i].State = 1
		}
		for i := range 30 {
			at := i * step % 30
			want := slices.Clone(l)
			want[at].State = 2
			takesBack(t, l, 20+at, want)
			l = want
		}
		cleans(t, l, lay(20, "f30"))
	}
}

// When all was given back, and it is cleaned, it is the one free piece that it was at first.
func TestAllIsGivenBack(t *testing.T) {
	for _, n := range []int{1, 3, 14, 40} {
		l, _ := New(60, 280)
		var keys []api.Key
		for {
			next, k, e := Give(l, n)
			if e != api.OK {
				break
			}
			l, keys = next, append(keys, k)
		}
		for _, k := range keys {
			l, _ = Back(l, k.Base)
		}
		if len(keys) != min(29, 280/n) {
			t.Fatalf("%d are given of %d cells each", len(keys), n)
		}
		cleans(t, l, []api.Piece{{Base: 60, Len: 280}})
	}
}
