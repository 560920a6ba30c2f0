package heap

import (
	"math"
	"slices"
	"testing"

	"custodian/api"
)

// bad are pieces that may not be, each by its Base and Len. Some are right if a sum wraps round, or is cut to fewer bits.
var bad = []api.Piece{
	{Base: -1, Len: 1}, {Base: -1, Len: 2}, {Base: -5, Len: 10}, {Base: -1, Len: 401}, {Base: -400, Len: 400}, {Base: -400, Len: 800}, {Base: math.MinInt, Len: 1},
	{Base: 0, Len: 0}, {Base: 10, Len: 0}, {Base: 399, Len: 0}, {Base: 400, Len: 0}, {Base: 0, Len: -1}, {Base: 1, Len: -1}, {Base: 10, Len: -5}, {Base: 400, Len: -1}, {Base: 401, Len: -1}, {Base: 405, Len: -5}, {Base: 800, Len: -400},
	{Base: 0, Len: 401}, {Base: 1, Len: 400}, {Base: 200, Len: 201}, {Base: 201, Len: 200}, {Base: 399, Len: 2}, {Base: 400, Len: 1}, {Base: 401, Len: 1}, {Base: 401, Len: 0}, {Base: 400, Len: 400},
	{Base: math.MaxInt, Len: 1}, {Base: math.MaxInt, Len: 2}, {Base: math.MaxInt, Len: 400}, {Base: math.MaxInt, Len: math.MaxInt}, {Base: math.MaxInt - 399, Len: 400}, {Base: math.MaxInt, Len: math.MinInt},
	{Base: 0, Len: math.MaxInt}, {Base: 1, Len: math.MaxInt}, {Base: 2, Len: math.MaxInt}, {Base: 400, Len: math.MaxInt}, {Base: 400, Len: math.MaxInt - 399}, {Base: 0, Len: math.MinInt}, {Base: 400, Len: math.MinInt},
	{Base: math.MinInt, Len: math.MinInt}, {Base: math.MinInt, Len: math.MaxInt}, {Base: -1, Len: math.MaxInt}, {Base: -1, Len: math.MinInt}, {Base: math.MinInt, Len: -1},
	{Base: 1 << 62, Len: 1 << 62}, {Base: 1 << 32, Len: 5}, {Base: 5, Len: 1 << 32}, {Base: 1<<32 + 5, Len: 5}, {Base: 5, Len: 1<<32 + 5}, {Base: 1 << 31, Len: 1 << 31}, {Base: -1 << 32, Len: 5}, {Base: 5, Len: -1<<32 + 5},
}

// badStates are no states.
var badStates = []int{-1, 3, 4, -2, -3, 255, 256, 257, 1 << 32, 1<<32 + 1, -1 << 32, math.MaxInt, math.MinInt, math.MinInt + 1}

func TestNoPieces(t *testing.T) {
	checks(t, nil, api.OK)
	checks(t, []api.Piece{}, api.OK)
}

func TestHowManyPieces(t *testing.T) {
	for n := range 31 {
		checks(t, many(0, n), api.OK)
		checks(t, many(400-n, n), api.OK)
	}
	for n := 31; n <= 400; n++ {
		checks(t, many(0, n), api.ErrLarge)
	}
	checks(t, append(many(0, 29), lay(29, "f371")...), api.OK)
	checks(t, append(many(0, 30), lay(30, "f370")...), api.ErrLarge)
	checks(t, make([]api.Piece, 100000), api.ErrLarge)
}

// That there are too many is told ahead of what is wrong with them.
func TestTooManyWrongPieces(t *testing.T) {
	for _, p := range bad {
		l := many(0, 31)
		l[0] = p
		checks(t, l, api.ErrLarge)
	}
	l := many(0, 31)
	l[0].State, l[1].State = free, free
	checks(t, l, api.ErrLarge)
	l[0].State = 3
	checks(t, l, api.ErrLarge)
	checks(t, l[:30], api.ErrArg)
}

func TestPiecesThatMayBe(t *testing.T) {
	for state := range 3 {
		for _, p := range []api.Piece{{Base: 0, Len: 1}, {Base: 0, Len: 400}, {Base: 0, Len: 399}, {Base: 1, Len: 399}, {Base: 200, Len: 200}, {Base: 399, Len: 1}, {Base: 398, Len: 2}} {
			p.State = state
			checks(t, []api.Piece{p}, api.OK)
		}
	}
}

func TestPiecesThatMayNotBe(t *testing.T) {
	for _, p := range bad {
		for state := range 3 {
			p.State = state
			checks(t, []api.Piece{p}, api.ErrArg)
		}
	}
}

func TestStatesThatMayNotBe(t *testing.T) {
	for _, state := range badStates {
		for _, l := range heaps() {
			for i := range l {
				odd := slices.Clone(l)
				odd[i].State = state
				checks(t, odd, api.ErrArg)
			}
		}
	}
}

func TestBaseAndLenTogether(t *testing.T) {
	for base := -3; base <= 403; base++ {
		for n := -3; n <= 403; n++ {
			want := api.OK
			if base < 0 || n < 1 || base+n > 400 {
				want = api.ErrArg
			}
			checks(t, []api.Piece{{Base: base, Len: n, State: 1}}, want)
			if got, e := New(base, n); e != want || want != api.OK && got != nil || want == api.OK && !slices.Equal(got, []api.Piece{{Base: base, Len: n}}) {
				t.Fatalf("New(%d, %d) = %v, %d, want %d", base, n, got, e, want)
			}
		}
	}
}

// The first piece begins wherever it does, each other one where the one ahead of it ends.
func TestWherePiecesBegin(t *testing.T) {
	for first := range 390 {
		checks(t, lay(first, "f3 g3 b4"), api.OK)
	}
	for at := range 400 {
		for state := range 3 {
			l := append(lay(10, "g5 b5"), api.Piece{Base: at, Len: 1, State: state})
			want := api.ErrForm
			if at == 20 {
				want = api.OK
			}
			checks(t, l, want)
		}
	}
}

// It is the piece just ahead that counts, whatever comes ahead of that one.
func TestEachPieceBeginsWhereTheOneAheadEnds(t *testing.T) {
	for i := 1; i < 30; i++ {
		for _, by := range []int{-1, 1, 2, 300} {
			l := many(5, 30)
			for j := i; j < 30; j++ {
				l[j].Base += by
			}
			checks(t, l, api.ErrForm)
		}
	}
	checks(t, []api.Piece{{Base: 50, Len: 5, State: 1}, {Base: 55, Len: 5, State: 1}, {Base: 50, Len: 5, State: 1}}, api.ErrForm)
	checks(t, []api.Piece{{Base: 50, Len: 5, State: 1}, {Base: 50, Len: 5, State: 1}}, api.ErrForm)
	checks(t, []api.Piece{{Base: 50, Len: 5, State: 1}, {Base: 45, Len: 5, State: 1}}, api.ErrForm)
	checks(t, []api.Piece{{Base: 50, Len: 5, State: 1}, {Base: 45, Len: 10, State: 1}}, api.ErrForm)
	checks(t, []api.Piece{{Base: 50, Len: 5, State: 1}, {Base: 0, Len: 1, State: 1}}, api.ErrForm)
}

// Two free ones side by side may not be; any other two may.
func TestTwoSideBySide(t *testing.T) {
	for i := range 29 {
		for a := range 3 {
			for b := range 3 {
				l := many(7, 30)
				l[i].State, l[i+1].State = a, b
				want := api.OK
				if a == 0 && b == 0 {
					want = api.ErrForm
				}
				checks(t, l, want)
			}
		}
	}
	for _, text := range []string{"f1 g1 f1", "f1 b1 f1", "f1 g1 g1 f1", "f1 b1 b1 f1", "f1 g1 f1 b1 f1"} {
		checks(t, lay(3, text), api.OK)
	}
}

// Of two pieces that are both wrong the one that is come to first is told, of one piece what it is by itself.
func TestWhichErrorIsTold(t *testing.T) {
	arg := append(slices.Clone(bad), api.Piece{Base: 20, Len: 5, State: 3}, api.Piece{Base: 21, Len: 5, State: -1})
	for _, p := range arg {
		checks(t, append(lay(10, "g5 f5"), p), api.ErrArg) // though it does not begin where it should either
		checks(t, append([]api.Piece{p}, lay(0, "f5")...), api.ErrArg)
		checks(t, append([]api.Piece{p}, lay(0, "f5 f5")...), api.ErrArg)
		checks(t, append(lay(0, "g5"), p, lay(9, "f5")[0]), api.ErrArg)
		checks(t, append(lay(0, "g5"), p, p), api.ErrArg)
		checks(t, append(lay(10, "g5 f5 f5"), p), api.ErrForm) // what is ahead of it comes first
		checks(t, append(lay(0, "g5"), lay(6, "g5")[0], p), api.ErrForm)
		checks(t, append(lay(0, "f5 f5"), p, p), api.ErrForm)
	}
	// A wrong state is told, though the two are not side by side, and though one of the two is free.
	checks(t, []api.Piece{{Base: 5, Len: 5}, {Base: 11, Len: 5, State: 3}}, api.ErrArg)
	checks(t, []api.Piece{{Base: 5, Len: 5, State: 3}, {Base: 10, Len: 5}, {Base: 15, Len: 5}}, api.ErrArg)
	checks(t, []api.Piece{{Base: 5, Len: 5}, {Base: 10, Len: 5}, {Base: 15, Len: 5, State: 3}}, api.ErrForm)
}

// Where numbers are so great that an end wraps round, what lies there is no piece behind it.
func TestEndsThatWrapRound(t *testing.T) {
	for _, p := range bad {
		end := p.Base + p.Len
		checks(t, []api.Piece{p, {Base: end, Len: 1, State: 1}}, api.ErrArg)
		checks(t, []api.Piece{{Base: 5, Len: 1, State: 1}, {Base: 6, Len: 1, State: 1}, p}, api.ErrArg)
	}
}

func TestNewOfWhatMayBe(t *testing.T) {
	for _, p := range []api.Piece{{Base: 0, Len: 1}, {Base: 0, Len: 400}, {Base: 10, Len: 20}, {Base: 1, Len: 399}, {Base: 200, Len: 200}, {Base: 399, Len: 1}} {
		got, e := New(p.Base, p.Len)
		made(t, call("New", nil, p.Base, p.Len), got, e, []api.Piece{p})
	}
}

func TestNewOfWhatMayNotBe(t *testing.T) {
	for _, p := range bad {
		got, e := New(p.Base, p.Len)
		nothing(t, call("New", nil, p.Base, p.Len), got, e, api.ErrArg)
	}
}
