package mem

import (
	"math"
	"slices"
	"testing"

	"custodian/api"
)

func aNumber(n int) api.Val  { return api.Val{N: n} }
func aKey(k api.Key) api.Val { return api.Val{Is: true, Key: k} }

// wrong is a value that may not be, and why.
type wrong struct {
	v api.Val
	e api.Errno
}

// wrongs has values that may not be, each reason of chapter 5 among them.
var wrongs = []wrong{
	{aNumber(api.MaxNumber + 1), api.ErrArg},
	{aNumber(api.MinNumber - 1), api.ErrArg},
	{aNumber(math.MaxInt), api.ErrArg},
	{aNumber(math.MinInt), api.ErrArg},
	{api.Val{N: 1 << 32, Key: api.Key{At: 1}}, api.ErrArg},
	{api.Val{Key: api.Key{At: 1}}, api.ErrForm},
	{api.Val{N: 5, Key: api.Key{Perm: 1}}, api.ErrForm},
	{api.Val{N: 5, Key: api.Key{Seal: -1}}, api.ErrForm},
	{aKey(api.Key{Perm: 128}), api.ErrArg},
	{aKey(api.Key{Base: 400, Len: 1}), api.ErrArg},
	{aKey(api.Key{At: -1}), api.ErrArg},
	{aKey(api.Key{Seal: 64}), api.ErrArg},
	{api.Val{Is: true, N: 7, Key: api.Key{At: 401}}, api.ErrArg},
	{api.Val{Is: true, N: 1}, api.ErrForm},
	{api.Val{Is: true, N: math.MinInt, Key: api.Key{Perm: 127, Len: 400}}, api.ErrForm},
}

// cells answers a memory of n cells that all differ: numbers of both signs, keys, and sealed ones.
func cells(n int) []api.Val {
	m := make([]api.Val, n)
	for at := range m {
		switch at % 4 {
		case 0:
			m[at] = aNumber(1000 + at)
		case 1:
			m[at] = aKey(api.Key{Perm: at % 128, Base: at % 300, Len: 1 + at%100, At: at % 401})
		case 2:
			m[at] = aNumber(api.MinNumber + at)
		case 3:
			m[at] = aKey(api.Key{Perm: 127, Len: 400, At: at % 401, Seal: 1 + at%63})
		}
	}
	return m
}

func checkCheck(t *testing.T, m []api.Val, want api.Errno) {
	t.Helper()
	was := slices.Clone(m)
	if e := Check(m); e != want {
		t.Errorf("Check of %d cells = %d, want %d", len(m), e, want)
	}
	if !slices.Equal(m, was) {
		t.Errorf("Check of %d cells changed them", len(m))
	}
}

func TestCheckOfNoCell(t *testing.T) {
	checkCheck(t, nil, api.OK)
	checkCheck(t, []api.Val{}, api.OK)
	checkCheck(t, make([]api.Val, 0, 1000), api.OK)
}

func TestCheckOfEachSize(t *testing.T) {
	for n := 0; n <= 400; n++ {
		checkCheck(t, cells(n), api.OK)
		checkCheck(t, make([]api.Val, n), api.OK)
	}
	for _, n := range []int{401, 402, 500, 800, 1000, 1 << 16} {
		checkCheck(t, make([]api.Val, n), api.ErrLarge)
	}
	checkCheck(t, cells(401), api.ErrLarge)
}

func TestCheckTellsThatItIsLargeFirst(t *testing.T) {
	for _, w := range wrongs {
		for _, at := range []int{0, 1, 200, 399, 400} {
			m := cells(401)
			m[at] = w.v
			checkCheck(t, m, api.ErrLarge)
		}
	}
}

// The ends of what a value may be are values in each cell.
func TestCheckOfTheEndsOfValues(t *testing.T) {
	for _, v := range []api.Val{
		aNumber(api.MaxNumber), aNumber(api.MinNumber), aNumber(0), aNumber(-1), aKey(api.Key{}),
		aKey(api.Key{Perm: 127, Len: 400, At: 400, Seal: 63}), aKey(api.Key{Perm: 127, Base: 400, At: 400, Seal: 63}),
	} {
		for _, n := range []int{1, 3, 400} {
			for _, at := range []int{0, n / 2, n - 1} {
				m := cells(n)
				m[at] = v
				checkCheck(t, m, api.OK)
			}
		}
	}
}

func TestCheckOfAWrongValueInEachCell(t *testing.T) {
	for _, w := range wrongs {
		for _, n := range []int{1, 2, 3, 10, 399, 400} {
			for at := range n {
				m := cells(n)
				m[at] = w.v
				checkCheck(t, m, w.e)
			}
		}
	}
}

func TestCheckTellsTheFirstWrongValue(t *testing.T) {
	places := []int{0, 1, 199, 200, 398, 399}
	for _, first := range wrongs {
		for _, second := range wrongs {
			for i, at := range places {
				for _, behind := range places[i+1:] {
					m := cells(400)
					m[at], m[behind] = first.v, second.v
					checkCheck(t, m, first.e)
				}
			}
		}
	}
}

// What lies in the room behind the last cell is none of the memory's.
func TestCheckLooksAtNoRoomBehind(t *testing.T) {
	for _, w := range wrongs {
		for _, n := range []int{0, 1, 5, 400} {
			m := append(cells(n), w.v, w.v)
			checkCheck(t, m[:n], api.OK)
		}
	}
}
