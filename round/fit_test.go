package round

import (
	"math"
	"math/big"
	"testing"

	"custodian/api"
)

// far has numbers that are neither where a range begins nor how many cells it has, among them such as are small ones
// where their upper bits are cut off, and such as come to a small sum with each other.
var far = []int{
	math.MinInt, math.MinInt + 1, math.MinInt + 5, math.MinInt + 1<<16, math.MaxInt, math.MaxInt - 1, math.MaxInt - 15, math.MaxInt - 1<<16,
	1 << 62, -1 << 62, 1 << 61, 1 << 48, 1<<48 + 4, 1 << 32, 1<<32 + 4, -1<<32 + 4, 1 << 31, 1<<31 - 1, -1 << 31, 1 << 20, 1<<17 + 4, 1 << 17, 1<<16 + 4, 1<<16 + 1,
	-1, -2, -4, -15, -16, -18, -1 << 16, -1<<16 + 4, -1<<16 - 4,
}

// ends are places near both ends of what a range may be, and beyond them.
var ends = []int{-3, -2, -1, 0, 1, 2, 3, 4, 8, 15, 16, 17, 255, 32767, 32768, 32769, 61440, 65520, 65533, 65534, 65535, 65536, 65537, 65538}

// mayBe says by numbers that don't wrap round whether it is a range.
func mayBe(base, n int) bool {
	left := new(big.Int).Sub(big.NewInt(65536), big.NewInt(int64(base)))
	return base >= 0 && base <= 65535 && n >= 0 && big.NewInt(int64(n)).Cmp(left) <= 0
}

// power answers 2^e.
func power(e int) int {
	p := 1
	for range e {
		p *= 2
	}
	return p
}

// fitsByE says, as the chapter does, whether a range fits by e.
func fitsByE(base, n, e int) bool {
	p := power(e)
	return base%p == 0 && n%p == 0 && n <= 15*p
}

// leastE goes through every E that a range could fit by, and some more; -1 says that it fits by none.
func leastE(base, n int) int {
	for e := 0; e <= 20; e++ {
		if fitsByE(base, n, e) {
			return e
		}
	}
	return -1
}

// told goes outward cell by cell, for each E, till a range is come to that fits by it.
func told(base, n int) (int, int) {
	for e := 0; ; e++ {
		p := power(e)
		first, behind := base, base+n
		for first%p != 0 {
			first--
		}
		for behind%p != 0 {
			behind++
		}
		if fitsByE(first, behind-first, e) {
			return first, behind - first
		}
	}
}

func checkFits(t *testing.T, base, n int, want bool) {
	t.Helper()
	if got := Fits(base, n); got != want {
		t.Errorf("Fits(%d, %d) = %v, want %v", base, n, got, want)
	}
}

func checkOut(t *testing.T, base, n, wantBase, wantN int, want api.Errno) {
	t.Helper()
	if b, m, e := Out(base, n); b != wantBase || m != wantN || e != want {
		t.Errorf("Out(%d, %d) = %d, %d, %d, want %d, %d, %d", base, n, b, m, e, wantBase, wantN, want)
	}
}

// checkNoRange asks all that are given a range.
func checkNoRange(t *testing.T, base, n int) {
	t.Helper()
	checkFits(t, base, n, false)
	checkOut(t, base, n, 0, 0, api.ErrArg)
	checkShort(t, base, n, 0, api.ErrArg)
}

// checkRange asks all that are given a range against what the chapter's words come to.
func checkRange(t *testing.T, base, n int) {
	t.Helper()
	if !mayBe(base, n) {
		checkNoRange(t, base, n)
		return
	}
	wantBase, wantN := told(base, n)
	checkOut(t, base, n, wantBase, wantN, api.OK)
	e := leastE(base, n)
	checkFits(t, base, n, e >= 0)
	if e < 0 {
		checkShort(t, base, n, 0, api.ErrForm)
		return
	}
	checkShort(t, base, n, e*1048576+base/power(e)*16+n/power(e), api.OK)
}

func TestFitsWrittenOut(t *testing.T) {
	for _, c := range []struct {
		base, n int
		want    bool
	}{
		// up to 15 cells from everywhere
		{0, 0, true}, {0, 1, true}, {0, 15, true}, {5, 15, true}, {1, 1, true}, {7, 0, true}, {65535, 0, true}, {65535, 1, true}, {65521, 15, true}, {65520, 15, true},
		// up to 30 cells by E 1
		{0, 16, true}, {2, 16, true}, {1, 16, false}, {5, 16, false}, {0, 17, false}, {1, 17, false}, {4, 18, true}, {3, 18, false}, {0, 30, true}, {2, 30, true}, {1, 30, false}, {0, 29, false}, {65520, 16, true}, {65519, 16, false}, {65506, 30, true},
		// by E 2: multiples of 2 are not enough
		{0, 32, true}, {0, 31, false}, {4, 32, true}, {2, 32, false}, {0, 34, false}, {2, 34, false}, {0, 36, true}, {4, 60, true}, {0, 60, true}, {6, 60, false}, {0, 62, false}, {0, 61, false}, {0, 64, true}, {4, 64, false}, {8, 64, true},
		// a multiple of much, but the other one is not
		{32768, 17, false}, {32768, 32768, true}, {32769, 16, false}, {16, 32768, false}, {3, 49152, false}, {16384, 49152, true}, {12288, 49152, true}, {8192, 49152, true}, {2048, 49152, false},
		// the largest ones: 61440 is 15 times 2^12
		{0, 61440, true}, {4096, 61440, true}, {2048, 61440, false}, {0, 61441, false}, {0, 61442, false}, {0, 63488, false}, {0, 65535, false}, {1, 65535, false}, {0, 65536, true}, {0, 57344, true}, {8192, 57344, true}, {4096, 57344, true},
	} {
		checkFits(t, c.base, c.n, c.want)
	}
}

func TestOutWrittenOut(t *testing.T) {
	for _, c := range []struct{ base, n, wantBase, wantN int }{
		// up to 15 cells stay, wherever
		{0, 0, 0, 0}, {7, 0, 7, 0}, {65535, 0, 65535, 0}, {65535, 1, 65535, 1}, {0, 15, 0, 15}, {5, 15, 5, 15}, {1, 1, 1, 1}, {65521, 15, 65521, 15},
		// what fits stays
		{0, 16, 0, 16}, {4, 18, 4, 18}, {2, 30, 2, 30}, {8, 64, 8, 64}, {4096, 61440, 4096, 61440}, {0, 65536, 0, 65536},
		// one end gives way
		{0, 17, 0, 18}, {1, 17, 0, 18}, {2, 29, 2, 30}, {3, 27, 2, 28}, {65519, 17, 65518, 18}, {32768, 32767, 32768, 32768}, {1, 61439, 0, 61440}, {4096, 61439, 4096, 61440},
		// both do
		{5, 16, 4, 18}, {1, 16, 0, 18}, {1, 28, 0, 30}, {3, 26, 2, 28}, {5, 50, 4, 52}, {7, 51, 4, 56}, {3, 58, 0, 64}, {4097, 61438, 4096, 61440},
		// it has grown to more than fits by its E, and is told with the next one
		{1, 30, 0, 32}, {1, 29, 0, 30}, {3, 29, 2, 30}, {3, 30, 0, 36}, {5, 30, 4, 32}, {7, 30, 4, 36}, {1, 59, 0, 60}, {1, 60, 0, 64}, {3, 60, 0, 64}, {7, 59, 0, 72}, {4, 60, 4, 60}, {5, 60, 0, 72},
		{2, 61440, 0, 65536}, {1, 61440, 0, 65536}, {4095, 61440, 0, 65536}, {2047, 30720, 0, 32768}, {4095, 30722, 0, 36864},
		// the largest ones
		{0, 65535, 0, 65536}, {1, 65535, 0, 65536}, {1, 65534, 0, 65536}, {0, 61441, 0, 65536}, {4095, 61441, 0, 65536}, {4096, 57345, 4096, 61440}, {8191, 57345, 4096, 61440},
	} {
		checkOut(t, c.base, c.n, c.wantBase, c.wantN, api.OK)
	}
}

func TestWhatIsNoRange(t *testing.T) {
	for _, c := range [][2]int{
		{-1, 0}, {-1, 1}, {-1, 2}, {-16, 16}, {-1, 65536}, {-1, 65537}, {-65536, 65536}, {65536, 0}, {65536, 1}, {65536, -1}, {65537, -1}, {131072, -65536}, {131072, 0},
		{0, -1}, {5, -1}, {5, -5}, {65535, -1}, {0, -16}, {16, -16},
		{0, 65537}, {1, 65536}, {2, 65536}, {65535, 2}, {65535, 65536}, {65520, 17}, {65520, 32}, {32768, 32769}, {32768, 65536}, {4096, 61441}, {4096, 65536}, {0, 131072}, {8, 65536},
		{math.MaxInt, math.MaxInt}, {math.MaxInt, 1}, {math.MaxInt, math.MinInt}, {math.MinInt, math.MaxInt}, {math.MinInt, math.MinInt}, {1, math.MaxInt}, {0, math.MaxInt}, {0, math.MinInt}, {1, math.MinInt},
		{math.MinInt, 0}, {math.MaxInt, 0}, {65535, math.MaxInt}, {65535, math.MinInt}, {1 << 62, 1 << 62}, {4, 1<<32 + 18}, {1<<32 + 4, 18}, {4, 1<<16 + 18}, {1<<16 + 4, 18},
	} {
		checkNoRange(t, c[0], c[1])
	}
}

func TestRangesOfAnySize(t *testing.T) {
	for _, base := range far {
		for n := -3; n <= 70; n++ {
			checkNoRange(t, base, n)
			checkNoRange(t, n, base)
		}
		for _, n := range far {
			checkNoRange(t, base, n)
		}
		for _, n := range ends {
			checkNoRange(t, base, n)
			checkNoRange(t, n, base)
		}
	}
}

func TestRangesAtBothEnds(t *testing.T) {
	for _, base := range ends {
		for _, n := range ends {
			checkRange(t, base, n)
		}
		for n := 65536 - base - 40; n <= 65536-base+40; n++ {
			checkRange(t, base, n)
		}
	}
	for base := 65400; base <= 65600; base++ {
		for n := -5; n <= 200; n++ {
			checkRange(t, base, n)
		}
	}
}

func TestSmallRanges(t *testing.T) {
	for base := -5; base <= 300; base++ {
		for n := -5; n <= 600; n++ {
			checkRange(t, base, n)
		}
	}
}

// Around every number of cells at which one E gives way to the next, and every place from which both ends move.
func TestRangesWhereEChanges(t *testing.T) {
	for e := 0; e <= 13; e++ {
		p := power(e)
		var bases, counts []int
		for _, b := range []int{0, 1, 2, 3, 5, 8, 15} {
			for _, more := range []int{-p/2 - 1, -p / 2, -1, 0, 1, p / 2, p/2 + 1} {
				bases = append(bases, b*p+more)
			}
		}
		for _, m := range []int{7, 8, 13, 14, 15, 16} {
			for _, more := range []int{-p/2 - 1, -p / 2, -2, -1, 0, 1, 2, p / 2, p/2 + 1} {
				counts = append(counts, m*p+more)
			}
		}
		for _, base := range bases {
			for _, n := range counts {
				checkRange(t, base, n)
			}
		}
	}
}

// What is told is never less than it was, fits, and is told as itself.
func TestOutHasAllCellsAndFits(t *testing.T) {
	for base := 0; base <= 65535; base += 97 {
		for n := 0; n <= 65536-base; n += 101 {
			b, m, e := Out(base, n)
			if e != api.OK || b > base || b+m < base+n || !mayBe(b, m) || !Fits(b, m) {
				t.Fatalf("Out(%d, %d) = %d, %d, %d", base, n, b, m, e)
			}
			checkOut(t, b, m, b, m, api.OK)
			if Fits(base, n) != (b == base && m == n) {
				t.Fatalf("Fits(%d, %d) = %v, but it is told as %d, %d", base, n, Fits(base, n), b, m)
			}
		}
	}
}
