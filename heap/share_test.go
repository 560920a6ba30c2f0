package heap

import (
	"slices"
	"testing"

	"custodian/api"
)

// junk lies in the room behind what is handed in: it would be wrong if it were part of it.
var junk = api.Piece{Base: -7, Len: 1 << 40, State: 9}

// roomy answers l with so much room behind it, in which p lies.
func roomy(l []api.Piece, room int, p api.Piece) []api.Piece {
	list := append(make([]api.Piece, 0, len(l)+room), l...)
	spoilFrom(list, len(l), p)
	return list
}

// spoilFrom makes all of a list from at on p, the room behind it too.
func spoilFrom(l []api.Piece, at int, p api.Piece) {
	all := l[:cap(l)]
	for i := at; i < len(all); i++ {
		all[i] = p
	}
}

// ask is one of the calls that answer pieces, with its numbers.
type ask func(l []api.Piece) []api.Piece

// asks has calls of all kinds. Some of them answer errors, by some heaps.
func asks() []ask {
	all := []ask{
		func(l []api.Piece) []api.Piece { made, _ := Clean(l); return made },
		func(l []api.Piece) []api.Piece { made, _ := New(len(l), 5); return made },
	}
	for _, n := range []int{0, 1, 2, 5, 300, 400} {
		all = append(all, func(l []api.Piece) []api.Piece { made, _, _ := Give(l, n); return made })
	}
	for _, i := range []int{0, 1, 2, 3} {
		all = append(all, func(l []api.Piece) []api.Piece {
			if i >= len(l) {
				return nil
			}
			made, _ := Back(l, l[i].Base)
			return made
		})
	}
	return all
}

// lists has lists with and without room, some of which are no heap.
func lists() [][]api.Piece {
	all := heaps()
	for _, w := range wrongs() {
		all = append(all, w.l)
	}
	var roomier [][]api.Piece
	for _, l := range all {
		for _, room := range []int{0, 1, 2, 100} {
			roomier = append(roomier, roomy(l, room, junk))
		}
	}
	return roomier
}

// All of an answer is written over, then all that was handed in, and the other ones are looked at.
func TestNothingIsShared(t *testing.T) {
	for _, l := range lists() {
		for _, do := range asks() {
			l := roomy(l, cap(l)-len(l), junk)
			was := whole(l)
			got, again := do(l), do(l)
			want := slices.Clone(again)
			spoilFrom(got, 0, junk)
			if !slices.Equal(whole(l), was) {
				t.Fatalf("what is done to the answer is done to what was handed in: %v", was)
			}
			if !slices.Equal(again, want) {
				t.Fatalf("two answers share memory: %v", was)
			}
			if third := do(l); !slices.Equal(third, want) {
				t.Fatalf("what is done to an answer is kept: %v, want %v", third, want)
			}
			spoilFrom(l, 0, junk)
			if !slices.Equal(again, want) {
				t.Fatalf("what is done to what was handed in is done to the answer: %v", was)
			}
		}
	}
}

// What lies in the room behind the pieces is none of them, also where it would be one.
func TestTheRoomBehindWhatIsHandedIn(t *testing.T) {
	for _, room := range []int{1, 2, 30, 100} {
		for _, p := range []api.Piece{junk, {Base: 22, Len: 9}, {Base: 22, Len: 9, State: 1}, {Base: 22, Len: 9, State: 2}} {
			l := roomy(lay(10, "g5 f5 b2"), room, p)
			checks(t, l, api.OK)
			gives(t, l, 5, 15, lay(10, "g5 g5 b2"))
			gives(t, l, 4, 15, lay(10, "g5 g4 f1 b2"))
			refusesToGive(t, l, 9, api.ErrNone)
			takesBack(t, l, 10, lay(10, "b5 f5 b2"))
			refusesToTakeBack(t, l, 22, api.ErrNone)
			cleans(t, l, lay(10, "g5 f7"))
			checks(t, roomy(many(0, 30), room, p), api.OK)
		}
	}
}

// In the room behind an answer lies nothing that lay behind what was handed in.
func TestTheRoomBehindAnswers(t *testing.T) {
	for _, l := range lists() {
		for _, do := range asks() {
			got := do(l)
			if slices.Contains(got[:cap(got)], junk) {
				t.Fatalf("behind %v lies %v", got, junk)
			}
		}
	}
}

// However often one asks, and whatever one has asked in between, the answer is the same.
func TestAnswersAreTheSame(t *testing.T) {
	var first [][]api.Piece
	for _, l := range lists() {
		for _, do := range asks() {
			first = append(first, slices.Clone(do(l)))
		}
	}
	for range 3 {
		i := 0
		for _, l := range lists() {
			for _, do := range asks() {
				if got := do(l); !slices.Equal(got, first[i]) {
					t.Fatalf("%v is answered by %v, at first by %v", l, got, first[i])
				}
				i++
			}
		}
	}
}
