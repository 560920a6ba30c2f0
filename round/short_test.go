package round

import (
	"math"
	"testing"

	"custodian/api"
)

func checkShort(t *testing.T, base, n, want int, wantE api.Errno) {
	t.Helper()
	if got, e := Short(base, n); got != want || e != wantE {
		t.Errorf("Short(%d, %d) = %d, %d, want %d, %d", base, n, got, e, want, wantE)
	}
}

func checkLong(t *testing.T, s, wantBase, wantN int, want api.Errno) {
	t.Helper()
	if b, n, e := Long(s); b != wantBase || n != wantN || e != want {
		t.Errorf("Long(%d) = %d, %d, %d, want %d, %d, %d", s, b, n, e, wantBase, wantN, want)
	}
}

func TestShortAndLongWrittenOut(t *testing.T) {
	for _, c := range []struct{ base, n, s int }{
		{0, 0, 0}, {0, 1, 1}, {0, 15, 15}, {1, 0, 16}, {1, 1, 17}, {5, 15, 95}, {7, 0, 112}, {65535, 0, 1048560}, {65535, 1, 1048561}, {65521, 15, 1048351},
		{4, 18, 1048576 + 32 + 9}, {2, 30, 1048576 + 16 + 15}, {65520, 16, 1048576 + 32760*16 + 8}, {65506, 30, 1048576 + 32753*16 + 15},
		// these fit by several E, and are told by the least one
		{0, 8, 8}, {8, 8, 136}, {16, 0, 256}, {32768, 0, 524288}, {32768, 2, 524290}, {0, 16, 1048576 + 8}, {16, 16, 1048576 + 128 + 8}, {0, 28, 1048576 + 14}, {0, 32, 2*1048576 + 8}, {64, 32, 2*1048576 + 256 + 8},
		{8, 64, 3*1048576 + 16 + 8}, {0, 32768, 12*1048576 + 8}, {32768, 32768, 12*1048576 + 128 + 8}, {16384, 49152, 12*1048576 + 64 + 12}, {0, 57344, 12*1048576 + 14},
		{0, 61440, 12*1048576 + 15}, {4096, 61440, 12*1048576 + 16 + 15}, {0, 65536, 13*1048576 + 8},
	} {
		checkShort(t, c.base, c.n, c.s, api.OK)
		checkLong(t, c.s, c.base, c.n, api.OK)
	}
}

// What is no range is told ahead of what does not fit, also where it would fit if it were one.
func TestShortTellsErrorsInOrder(t *testing.T) {
	for _, c := range [][2]int{{-1, 16}, {-2, 16}, {-16, 16}, {65536, 0}, {65536, 16}, {65535, 17}, {1, 65536}, {8192, 65536}, {0, -16}, {5, -1}, {0, 65537}, {0, 131072}, {math.MaxInt, 16}, {math.MinInt, 16}, {0, math.MaxInt}, {1, math.MinInt}} {
		checkShort(t, c[0], c[1], 0, api.ErrArg)
	}
	for _, c := range [][2]int{{5, 16}, {1, 16}, {0, 17}, {3, 18}, {0, 31}, {2, 32}, {2, 34}, {0, 62}, {4, 64}, {32769, 16}, {2048, 61440}, {0, 61441}, {1, 65535}, {0, 65535}, {65519, 17}} {
		checkShort(t, c[0], c[1], 0, api.ErrForm)
	}
}

func TestLongOfNumbersOfNoRange(t *testing.T) {
	for _, s := range []int{
		// a greater E than the least one
		1048576, 1048576 + 1, 1048576 + 7, 1048576 + 16, 1048576 + 16 + 7, 1048576 + 32 + 4, 2 * 1048576, 2*1048576 + 7, 2*1048576 + 4, 3*1048576 + 16, 5*1048576 + 7, 12*1048576 + 7, 12*1048576 + 1, 13 * 1048576, 13*1048576 + 7, 13*1048576 + 4, 14 * 1048576, 14*1048576 + 4, 15*1048576 + 2, 16*1048576 + 1, 16 * 1048576, 17 * 1048576,
		// cells beyond the last one
		1048562, 1048575, 65522*16 + 15, 1048576 + 32768*16 + 8, 1048576 + 32767*16 + 8, 1048576 + 32761*16 + 8, 1048576 + 65535*16 + 15, 12*1048576 + 15*16 + 8, 12*1048576 + 16*16 + 8, 12*1048576 + 2*16 + 15, 12*1048576 + 9*16 + 8, 13*1048576 + 9, 13*1048576 + 15, 13*1048576 + 16 + 8, 13*1048576 + 8*16 + 8, 14*1048576 + 8, 15*1048576 + 8, 16*1048576 + 8, 20*1048576 + 8, 64*1048576 + 8, 63*1048576 + 8,
		// negative ones
		-1, -2, -8, -15, -16, -17, -1048576, -1048575, -1048568, -1048576 + 32 + 9, -1048577, -13*1048576 + 8,
		math.MinInt, math.MinInt + 1, math.MinInt + 8, math.MinInt + 32, math.MinInt + 1048576 + 32 + 9, math.MaxInt, math.MaxInt - 1, math.MaxInt - 7,
	} {
		checkLong(t, s, 0, 0, api.ErrForm)
	}
}

// A number with anything beyond what Short has is none, whichever bit it is.
func TestLongOfNumbersWithMore(t *testing.T) {
	for _, c := range [][2]int{{0, 0}, {0, 15}, {5, 15}, {65535, 1}, {4, 18}, {4096, 61440}, {0, 65536}} {
		s, _ := Short(c[0], c[1])
		checkLong(t, s, c[0], c[1], api.OK)
		for bit := 24; bit <= 62; bit++ {
			checkLong(t, s+1<<bit, 0, 0, api.ErrForm)
			checkLong(t, s-1<<bit, 0, 0, api.ErrForm)
		}
		checkLong(t, s+math.MinInt, 0, 0, api.ErrForm)
	}
	for _, s := range far {
		if s < 0 || s > 1<<24 {
			checkLong(t, s, 0, 0, api.ErrForm)
		}
	}
}

// shorts has for each number whether it is Short of a range, by going through all ranges that fit.
func shorts() []bool {
	all := make([]bool, 20*1048576)
	for e := 0; e <= 16; e++ {
		p := power(e)
		for base := 0; base <= 65535; base += p {
			for n := 0; n <= 15*p && n <= 65536-base; n += p {
				if leastE(base, n) == e {
					all[e*1048576+base/p*16+n/p] = true
				}
			}
		}
	}
	return all
}

// Every number that could be one: what Long answers is a range that Short tells as that number, and no range is left out.
func TestLongOfEachNumber(t *testing.T) {
	for s, is := range shorts() {
		base, n, e := Long(s)
		if !is {
			if base != 0 || n != 0 || e != api.ErrForm {
				t.Fatalf("Long(%d) = %d, %d, %d, want an ErrForm", s, base, n, e)
			}
			continue
		}
		if e != api.OK || !mayBe(base, n) {
			t.Fatalf("Long(%d) = %d, %d, %d, want a range", s, base, n, e)
		}
		if again, err := Short(base, n); again != s || err != api.OK {
			t.Fatalf("Long(%d) = %d, %d, which is told as %d, %d", s, base, n, again, err)
		}
	}
	for s := -100000; s < 0; s++ {
		checkLong(t, s, 0, 0, api.ErrForm)
	}
}
