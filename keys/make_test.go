package keys

import (
	"math"
	"math/big"
	"testing"

	"custodian/api"
)

// call is a call that makes a key of a key and a number.
type call struct {
	name string
	make func(k api.Key, n int) (api.Key, api.Errno)
}

func calls() []call { return []call{{"Move", Move}, {"Narrow", Narrow}, {"Drop", Drop}} }

func checkMade(t *testing.T, c call, k api.Key, n int, want api.Key, wantE api.Errno) {
	t.Helper()
	if got, e := c.make(k, n); got != want || e != wantE {
		t.Errorf("%s(%+v, %d) = %+v, %d, want %+v, %d", c.name, k, n, got, e, want, wantE)
	}
}

func checkMove(t *testing.T, k api.Key, by int, want api.Key, wantE api.Errno) {
	t.Helper()
	checkMade(t, call{"Move", Move}, k, by, want, wantE)
}

func checkNarrow(t *testing.T, k api.Key, n int, want api.Key, wantE api.Errno) {
	t.Helper()
	checkMade(t, call{"Narrow", Narrow}, k, n, want, wantE)
}

func TestMoveWrittenOut(t *testing.T) {
	for _, c := range []struct{ at, by, want int }{
		{15, 0, 15}, {15, 1, 16}, {15, -1, 14}, {15, 5, 20}, {15, -15, 0}, {15, 385, 400}, {15, 384, 399}, {15, -14, 1}, // also out of its cells
		{0, 0, 0}, {0, 400, 400}, {0, 1, 1}, {400, 0, 400}, {400, -400, 0}, {400, -1, 399},
	} {
		k, want := plain(), plain()
		k.At, want.At = c.at, c.want
		checkMove(t, k, c.by, want, api.OK)
	}
	for _, c := range []struct{ at, by int }{
		{15, -16}, {15, 386}, {15, -17}, {15, 1000}, {0, -1}, {0, 401}, {400, 1}, {400, -401},
		{15, math.MaxInt}, {15, math.MinInt}, {0, math.MaxInt}, {0, math.MinInt}, {400, math.MaxInt}, {400, math.MinInt}, {15, math.MaxInt - 14}, {15, math.MinInt + 14},
		{15, 1 << 32}, {15, -1 << 32}, {15, 1<<32 + 5}, {15, 1 << 62}, {15, -1 << 62}, {400, math.MaxInt - 399},
	} {
		k := plain()
		k.At = c.at
		checkMove(t, k, c.by, api.Key{}, api.ErrRange)
	}
}

func TestMoveFromEachPlace(t *testing.T) {
	for at := 0; at <= 400; at++ {
		k := api.Key{Perm: 127, Base: 100, Len: 50, At: at}
		for to := -20; to <= 420; to++ {
			if to < 0 || to > 400 {
				checkMove(t, k, to-at, api.Key{}, api.ErrRange)
				continue
			}
			want := k
			want.At = to
			checkMove(t, k, to-at, want, api.OK)
		}
	}
}

func TestNarrowWrittenOut(t *testing.T) {
	for _, c := range []struct{ base, n, at, to int }{
		{10, 20, 15, 4}, {10, 20, 15, 0}, {10, 20, 15, 1}, {10, 20, 15, 15}, {10, 20, 10, 20}, {10, 20, 10, 0}, {10, 20, 29, 1}, {10, 20, 29, 0},
		{10, 20, 30, 0}, // behind its last cell there is still room for none
		{10, 0, 10, 0}, {0, 0, 0, 0}, {400, 0, 400, 0}, {0, 400, 0, 400}, {0, 400, 400, 0}, {0, 400, 399, 1}, {399, 1, 399, 1},
	} {
		k := api.Key{Perm: 93, Base: c.base, Len: c.n, At: c.at}
		checkNarrow(t, k, c.to, api.Key{Perm: 93, Base: c.at, Len: c.to, At: c.at}, api.OK)
	}
	for _, c := range []struct{ base, n, at, to int }{
		{10, 20, 15, -1}, {10, 20, 15, 16}, {10, 20, 15, 20}, {10, 20, 10, 21}, {10, 20, 10, -1}, {10, 20, 9, 0}, {10, 20, 9, 1}, {10, 20, 9, 5}, {10, 20, 9, 21}, {10, 20, 0, 0}, {10, 20, 0, 10},
		{10, 20, 29, 2}, {10, 20, 30, 1}, {10, 20, 30, -1}, {10, 20, 31, 0}, {10, 20, 31, -1}, {10, 20, 31, -2}, {10, 20, 400, 0}, {10, 20, 400, -370}, {10, 0, 10, 1}, {10, 0, 9, 0}, {10, 0, 11, 0},
		{0, 400, 400, 1}, {0, 400, 0, 401}, {0, 400, 0, -1}, {0, 0, 0, 1},
		{10, 20, 15, math.MaxInt}, {10, 20, 15, math.MinInt}, {10, 20, 15, math.MaxInt - 14}, {10, 20, 15, math.MinInt + 5}, {10, 20, 15, 1<<32 + 4}, {10, 20, 15, -1<<32 + 4},
		{10, 20, 0, math.MaxInt}, {10, 20, 400, math.MaxInt}, {10, 20, 400, math.MinInt}, {0, 0, 0, math.MinInt}, {0, 0, 0, math.MaxInt},
	} {
		k := api.Key{Perm: 93, Base: c.base, Len: c.n, At: c.at}
		checkNarrow(t, k, c.to, api.Key{}, api.ErrRange)
	}
}

func TestNarrowNearEachEnd(t *testing.T) {
	sizes := append([]int{}, wide...)
	for n := -3; n <= 12; n++ {
		sizes = append(sizes, n)
	}
	for _, base := range []int{0, 1, 7, 390, 394} {
		for have := 0; have <= 6; have++ {
			for at := max(base-3, 0); at <= min(base+have+3, 400); at++ {
				k := api.Key{Perm: 3, Base: base, Len: have, At: at}
				for _, n := range sizes {
					behind := new(big.Int).Add(big.NewInt(int64(at)), big.NewInt(int64(n)))
					if n < 0 || at < base || behind.Cmp(big.NewInt(int64(base+have))) > 0 {
						checkNarrow(t, k, n, api.Key{}, api.ErrRange)
						continue
					}
					checkNarrow(t, k, n, api.Key{Perm: 3, Base: at, Len: n, At: at}, api.OK)
				}
			}
		}
	}
}

func checkDrop(t *testing.T, perm, p, want int) {
	t.Helper()
	k, left := plain(), plain()
	k.Perm, left.Perm = perm, want
	checkMade(t, call{"Drop", Drop}, k, p, left, api.OK)
}

func TestDropWrittenOut(t *testing.T) {
	for _, c := range []struct{ perm, p, want int }{
		{127, 3, 3}, {3, 127, 3}, {5, 3, 1}, {5, 2, 0}, {5, 5, 5}, {5, 0, 0}, {0, 127, 0}, {0, 0, 0}, {127, 127, 127}, {127, 64, 64}, {127, 1, 1},
		{127, 128, 0}, {127, 129, 1}, {127, 255, 127}, {127, 1 << 32, 0}, {127, 1<<32 + 5, 5}, {127, 1 << 62, 0}, {127, math.MaxInt, 127}, {90, math.MaxInt, 90}, {127, math.MaxInt - 1, 126},
		{127, -1, 127}, {0, -1, 0}, {90, -1, 90}, {127, -2, 126}, {127, -127, 1}, {127, -128, 0}, {127, -129, 127}, {127, -8, 120}, {127, math.MinInt, 0}, {127, math.MinInt + 5, 5}, {7, -3, 5}, {127, api.MinNumber, 0}, {127, api.MaxNumber, 127},
	} {
		checkDrop(t, c.perm, c.p, c.want)
	}
}

func TestDropOneByOne(t *testing.T) {
	for perm := 0; perm <= 127; perm++ {
		for p := 0; p <= 127; p++ {
			want := 0
			for _, one := range allowed {
				if perm/one%2 == 1 && p/one%2 == 1 {
					want += one
				}
			}
			checkDrop(t, perm, p, want)
			// 128s below 0 have the same seven bits
			checkDrop(t, perm, p-128, want)
			checkDrop(t, perm, p-1<<40, want)
			checkDrop(t, perm, p+1<<40, want)
			checkDrop(t, perm, math.MinInt+p, want)
		}
	}
}

// Drop does not look at where a key is, nor at its cells.
func TestDropKeepsTheRest(t *testing.T) {
	for _, k := range []api.Key{{Perm: 127}, {Perm: 127, Base: 400, At: 400}, {Perm: 127, Len: 400}, {Perm: 127, Base: 10, Len: 2, At: 9}} {
		want := k
		want.Perm = 9
		checkMade(t, call{"Drop", Drop}, k, 9, want, api.OK)
	}
}

var numbers = append([]int{4, 15, 20, 127, 128, -15, -16, -400, -401}, wide...)

func TestSealedKeysMakeNoOthers(t *testing.T) {
	for _, c := range calls() {
		for seal := 1; seal <= 63; seal++ {
			for _, n := range numbers { // among them such as would be ErrRange
				k := plain()
				k.Seal = seal
				checkMade(t, c, k, n, api.Key{}, api.ErrSealed)
				k.At = 0
				checkMade(t, c, k, n, api.Key{}, api.ErrSealed)
			}
		}
	}
}

func TestWrongKeysMakeNoOthers(t *testing.T) {
	sealed := plain()
	sealed.Seal = 5
	for _, c := range calls() {
		for _, n := range numbers {
			for _, k := range append(wrongKeys(plain()), wrongKeys(sealed)...) {
				checkMade(t, c, k, n, api.Key{}, api.ErrArg)
			}
		}
	}
}

// Nothing that is made of a key is more than it, and what is made may be.
func TestWhatIsMadeIsUnder(t *testing.T) {
	for _, base := range []int{0, 10, 390, 400} {
		for _, have := range []int{0, 1, 10, 390} {
			for _, at := range []int{0, 9, 10, 15, 20, 395, 400} {
				k := api.Key{Perm: 77, Base: base, Len: have, At: at}
				for _, n := range numbers {
					checkMadeIsUnder(t, k, n)
				}
			}
		}
	}
}

func checkMadeIsUnder(t *testing.T, k api.Key, n int) {
	t.Helper()
	for _, c := range calls() {
		if made, e := c.make(k, n); e == api.OK && (!Under(made, k) || Check(made) != api.OK) {
			t.Errorf("%s(%+v, %d) = %+v, which is more", c.name, k, n, made)
		}
	}
}
