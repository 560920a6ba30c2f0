package num

import (
	"math"
	"math/big"
	"testing"

	"custodian/api"
)

const (
	least    = api.MinNumber
	greatest = api.MaxNumber
	turn     = 1 << 32
)

// pair is a call with two arguments, and what it must answer.
type pair struct{ a, b, want int }

func checkPairs(t *testing.T, name string, call func(a, b int) int, pairs []pair) {
	t.Helper()
	for _, p := range pairs {
		if got := call(p.a, p.b); got != p.want {
			t.Errorf("%s(%d, %d) = %d, want %d", name, p.a, p.b, got, p.want)
		}
	}
}

func TestWrap(t *testing.T) {
	for _, c := range []struct{ n, want int }{
		{0, 0}, {1, 1}, {-1, -1}, {12345, 12345}, {-12345, -12345},
		{greatest, greatest}, {greatest - 1, greatest - 1}, {greatest + 1, least}, {greatest + 2, least + 1},
		{least, least}, {least + 1, least + 1}, {least - 1, greatest}, {least - 2, greatest - 1},
		{turn, 0}, {-turn, 0}, {turn - 1, -1}, {turn + 5, 5}, {-turn - 5, -5}, {3*turn + 7, 7}, {-3*turn - 7, -7},
		{turn + greatest, greatest}, {turn + least, least}, {-turn + greatest, greatest}, {-turn + least, least},
		{math.MinInt, 0}, {math.MinInt + 1, 1}, {math.MaxInt, -1}, {math.MaxInt - 1, -2},
	} {
		if got := Wrap(c.n); got != c.want {
			t.Errorf("Wrap(%d) = %d, want %d", c.n, got, c.want)
		}
	}
}

func TestAdd(t *testing.T) {
	checkPairs(t, "Add", Add, []pair{
		{0, 0, 0}, {2, 3, 5}, {-2, 3, 1}, {2, -3, -1}, {-2, -3, -5},
		{greatest, 0, greatest}, {greatest, 1, least}, {1, greatest, least}, {greatest - 1, 1, greatest},
		{least, 0, least}, {least, -1, greatest}, {-1, least, greatest}, {least + 1, -1, least},
		{greatest, greatest, -2}, {least, least, 0}, {least, greatest, -1},
		{turn + 2, -turn + 3, 5}, {turn + greatest, 1, least},
		{math.MaxInt, math.MaxInt, -2}, {math.MinInt, math.MinInt, 0}, {math.MaxInt, 1, 0}, {math.MinInt, -1, -1},
	})
}

func TestSub(t *testing.T) {
	checkPairs(t, "Sub", Sub, []pair{
		{0, 0, 0}, {5, 3, 2}, {3, 5, -2}, {-3, 5, -8}, {-3, -5, 2},
		{greatest, 0, greatest}, {greatest, -1, least}, {greatest, greatest, 0},
		{least, 0, least}, {least, 1, greatest}, {least, least, 0}, {0, least, least}, {-1, least, greatest},
		{0, greatest, least + 1}, {least, greatest, 1}, {greatest, least, -1},
		{turn + 5, -turn + 3, 2}, {turn, 0, 0},
		{math.MinInt, 1, -1}, {math.MinInt, math.MaxInt, 1}, {math.MaxInt, math.MinInt, -1}, {0, math.MinInt, 0},
	})
}

func TestMul(t *testing.T) {
	checkPairs(t, "Mul", Mul, []pair{
		{0, 0, 0}, {0, 7, 0}, {6, 7, 42}, {-6, 7, -42}, {6, -7, -42}, {-6, -7, 42},
		{greatest, 1, greatest}, {greatest, -1, least + 1}, {greatest, 2, -2}, {greatest, greatest, 1},
		{least, 1, least}, {least, -1, least}, {least, 2, 0}, {least, least, 0}, {least, greatest, least},
		{1 << 16, 1 << 15, least}, {1 << 16, -1 << 15, least}, {1 << 16, 1 << 16, 0}, {46341, 46341, -2147479015},
		{100000, 100000, 1410065408}, {turn + 6, -turn + 7, 42}, {turn, 9, 0},
		{math.MaxInt, math.MaxInt, 1}, {math.MinInt, -1, 0}, {math.MinInt, math.MaxInt, 0},
	})
}

func TestDiv(t *testing.T) {
	for _, p := range []pair{
		{0, 5, 0}, {6, 3, 2}, {7, 2, 3}, {-7, 2, -3}, {7, -2, -3}, {-7, -2, 3}, {7, 7, 1}, {1, 2, 0}, {-1, 2, 0}, {1, -2, 0}, {-1, -2, 0},
		{greatest, 1, greatest}, {greatest, -1, least + 1}, {greatest, greatest, 1}, {greatest, least, 0},
		{least, 1, least}, {least, -1, least}, {least, least, 1}, {least, greatest, -1}, {least, 2, -1 << 30}, {greatest, 2, 1<<30 - 1},
		{greatest + 1, 2, -1 << 30}, {least - 1, 2, 1<<30 - 1}, {turn + 7, -turn - 2, -3}, {turn, 5, 0}, {7, turn + 2, 3}, {7, turn - 2, -3},
		{least - turn, turn - 1, least}, {math.MinInt, -1, 0}, {math.MaxInt, math.MaxInt, 1}, {5, math.MaxInt, -5},
	} {
		if got, e := Div(p.a, p.b); got != p.want || e != api.OK {
			t.Errorf("Div(%d, %d) = %d, %d, want %d, 0", p.a, p.b, got, e, p.want)
		}
	}
}

func TestDivByZero(t *testing.T) {
	for _, a := range []int{0, 1, -1, greatest, least, turn, math.MaxInt, math.MinInt} {
		for _, b := range []int{0, turn, -turn, 5 * turn, -5 * turn, math.MinInt} {
			if got, e := Div(a, b); got != 0 || e != api.ErrZero {
				t.Errorf("Div(%d, %d) = %d, %d, want 0, %d", a, b, got, e, api.ErrZero)
			}
		}
	}
}

func TestLess(t *testing.T) {
	checkPairs(t, "Less", Less, []pair{
		{0, 0, 0}, {1, 2, 1}, {2, 1, 0}, {-1, 0, 1}, {0, -1, 0}, {-2, -1, 1}, {-1, -2, 0}, {5, 5, 0}, {-5, -5, 0},
		{least, greatest, 1}, {greatest, least, 0}, {least, least, 0}, {greatest, greatest, 0},
		{greatest + 1, greatest, 1}, {greatest, greatest + 1, 0}, {least - 1, least, 0}, {least, least - 1, 1},
		{5, turn + 5, 0}, {turn + 5, 5, 0}, {-3*turn + 5, 2*turn + 5, 0}, {turn, 1, 1}, {1, turn, 0}, {turn + 1, 2, 1},
		{math.MinInt, 0, 0}, {0, math.MinInt, 0}, {math.MaxInt, 0, 1}, {0, math.MaxInt, 0}, {math.MinInt, math.MaxInt, 0}, {math.MaxInt, math.MinInt, 1},
	})
}

// bigWrap says what Wrap must answer, by other means than machine words.
func bigWrap(n *big.Int) *big.Int {
	half := big.NewInt(1 << 31)
	up := new(big.Int).Add(n, half)
	up.Mod(up, big.NewInt(turn))
	return up.Sub(up, half)
}

func bigOf(n int) *big.Int { return bigWrap(big.NewInt(int64(n))) }

func edges() []int {
	var l []int
	for _, n := range []int{0, least, greatest, 1 << 16, -1 << 16, turn, -turn, 3 * turn, 1 << 62, -1 << 62} {
		for by := -3; by <= 3; by++ {
			l = append(l, n+by)
		}
	}
	return append(l, math.MinInt, math.MinInt+1, math.MaxInt-1, math.MaxInt, 46340, 46341, 1000003, -999983)
}

func sameAsBig(t *testing.T, name string, a, b, got int, want *big.Int) {
	t.Helper()
	if w := bigWrap(want); big.NewInt(int64(got)).Cmp(w) != 0 {
		t.Errorf("%s of %d and %d is %d, want %s", name, a, b, got, w)
	}
}

func TestEdgesAgainstBig(t *testing.T) {
	for _, a := range edges() {
		sameAsBig(t, "Wrap", a, a, Wrap(a), big.NewInt(int64(a)))
		for _, b := range edges() {
			x, y := bigOf(a), bigOf(b)
			sameAsBig(t, "Add", a, b, Add(a, b), new(big.Int).Add(x, y))
			sameAsBig(t, "Sub", a, b, Sub(a, b), new(big.Int).Sub(x, y))
			sameAsBig(t, "Mul", a, b, Mul(a, b), new(big.Int).Mul(x, y))
			if less := Less(a, b); (less == 1) != (x.Cmp(y) < 0) || less != 0 && less != 1 {
				t.Errorf("Less(%d, %d) = %d", a, b, less)
			}
			got, e := Div(a, b)
			if y.Sign() == 0 {
				if got != 0 || e != api.ErrZero {
					t.Errorf("Div(%d, %d) = %d, %d, want ErrZero", a, b, got, e)
				}
				continue
			}
			sameAsBig(t, "Div", a, b, got, new(big.Int).Quo(x, y))
			if e != api.OK {
				t.Errorf("Div(%d, %d) answers error %d", a, b, e)
			}
		}
	}
}
