package heap

import (
	"math"
	"slices"
	"testing"

	"custodian/api"
)

// nowhere are places at which no piece begins.
var nowhere = []int{-1, -2, -5, -400, 400, 401, 1000, math.MinInt, math.MaxInt, math.MinInt + 5, 1 << 31, 1 << 32, 1<<32 + 5, -1 << 32, -1<<32 + 5, 1 << 62}

func TestBackWrittenOut(t *testing.T) {
	takesBack(t, lay(0, "g1"), 0, lay(0, "b1"))
	takesBack(t, lay(399, "g1"), 399, lay(399, "b1"))
	takesBack(t, lay(0, "g400"), 0, lay(0, "b400"))
	takesBack(t, lay(10, "f5 g5 f5"), 15, lay(10, "f5 b5 f5")) // it is not one with those beside it
	takesBack(t, lay(10, "b5 g5 b5"), 15, lay(10, "b5 b5 b5"))
	takesBack(t, lay(10, "g5 g5 g5"), 15, lay(10, "g5 b5 g5"))
	takesBack(t, lay(10, "g5 g5 g5"), 10, lay(10, "b5 g5 g5"))
	takesBack(t, lay(10, "g5 g5 g5"), 20, lay(10, "g5 g5 b5"))
}

func TestBackOfNoHeap(t *testing.T) {
	for _, w := range wrongs() {
		for _, base := range append([]int{0, 1, 5, 10, 399}, nowhere...) {
			refusesToTakeBack(t, w.l, base, w.e)
		}
	}
}

// At each place of each heap: where a given piece begins it is given back, and no other is changed; else there is none.
func TestBackAtEachPlace(t *testing.T) {
	for _, l := range heaps() {
		for base := -3; base <= 403; base++ {
			i := slices.IndexFunc(l, func(p api.Piece) bool { return p.Base == base })
			if i < 0 || l[i].State != 1 {
				refusesToTakeBack(t, l, base, api.ErrNone)
				continue
			}
			want := slices.Clone(l)
			want[i].State = 2
			takesBack(t, l, base, want)
			refusesToTakeBack(t, want, base, api.ErrNone)
		}
		for _, base := range nowhere {
			refusesToTakeBack(t, l, base, api.ErrNone)
		}
	}
}

// At 5 a free piece begins, at 10 one that was given back; the others are places within a given one, or just behind it.
func TestBackOfWhatIsNotGiven(t *testing.T) {
	l := lay(5, "f5 b5 g5")
	for _, base := range []int{0, 4, 5, 6, 9, 10, 11, 14, 16, 17, 19, 20, 21} {
		refusesToTakeBack(t, l, base, api.ErrNone)
	}
	takesBack(t, l, 15, lay(5, "f5 b5 b5"))
	refusesToTakeBack(t, nil, 0, api.ErrNone)
	refusesToTakeBack(t, []api.Piece{}, 0, api.ErrNone)
}

// What was given back is not given again till it is cleaned.
func TestWhatWasGivenBackIsNotGiven(t *testing.T) {
	l, _ := New(10, 20)
	l, _, _ = Give(l, 20)
	l, _ = Back(l, 10)
	for n := 1; n <= 21; n++ {
		refusesToGive(t, l, n, api.ErrNone)
	}
	l, _ = Clean(l)
	gives(t, l, 20, 10, lay(10, "g20"))
	gives(t, l, 1, 10, lay(10, "g1 f19"))
}
