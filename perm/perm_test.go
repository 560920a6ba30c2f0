package perm

import (
	"math"
	"strings"
	"testing"

	"custodian/api"
)

// rights is what the document lists, in its order, written out apart from the program's own text of signs.
var rights = []struct {
	bit  int
	sign string
}{
	{api.PLoad, "r"}, {api.PStore, "w"}, {api.PExec, "x"}, {api.PTake, "R"}, {api.PPut, "W"}, {api.PSeal, "s"}, {api.POpen, "u"},
}

// textOf says what Text must answer for p from 0 to 127: p less what is told is 0 at the end.
func textOf(t *testing.T, p int) string {
	t.Helper()
	told, rest := "", p
	for i := len(rights) - 1; i >= 0; i-- {
		if rest >= rights[i].bit {
			rest -= rights[i].bit
			told = rights[i].sign + told
		}
	}
	if rest != 0 {
		t.Fatalf("%d is no sum of what is listed", p)
	}
	if told == "" {
		return "-"
	}
	return told
}

// texts has every text that is one, with what it tells.
func texts(t *testing.T) map[string]int {
	t.Helper()
	all := map[string]int{}
	for p := 0; p <= 127; p++ {
		all[textOf(t, p)] = p
	}
	if len(all) != 128 {
		t.Fatalf("%d texts, want 128", len(all))
	}
	return all
}

func checkRead(t *testing.T, s string, want int, wantE api.Errno) {
	t.Helper()
	if p, e := Read(s); p != want || e != wantE {
		t.Errorf("Read(%q) = %d, %d, want %d, %d", s, p, e, want, wantE)
	}
}

func TestWrittenOut(t *testing.T) {
	for _, c := range []struct {
		p int
		s string
	}{
		{0, "-"}, {1, "r"}, {2, "w"}, {3, "rw"}, {4, "x"}, {5, "rx"}, {6, "wx"}, {7, "rwx"}, {8, "R"}, {9, "rR"},
		{16, "W"}, {18, "wW"}, {24, "RW"}, {27, "rwRW"}, {32, "s"}, {64, "u"}, {65, "ru"}, {96, "su"},
		{63, "rwxRWs"}, {126, "wxRWsu"}, {119, "rwxWsu"}, {127, "rwxRWsu"},
	} {
		if s, e := Text(c.p); s != c.s || e != api.OK {
			t.Errorf("Text(%d) = %q, %d, want %q, 0", c.p, s, e, c.s)
		}
		checkRead(t, c.s, c.p, api.OK)
	}
}

func TestTextOfEach(t *testing.T) {
	for p := 0; p <= 127; p++ {
		if s, e := Text(p); s != textOf(t, p) || e != api.OK {
			t.Errorf("Text(%d) = %q, %d, want %q, 0", p, s, e, textOf(t, p))
		}
	}
}

func TestTextBeyondBothEnds(t *testing.T) {
	far := []int{
		math.MinInt, math.MinInt + 1, math.MinInt + 5, math.MaxInt, math.MaxInt - 1,
		1 << 32, 1<<32 + 5, -1<<32 + 5, 1 << 31, api.MaxNumber, api.MinNumber, 1 << 62,
	}
	for by := 1; by <= 1000; by++ {
		far = append(far, -by, 127+by)
	}
	for _, p := range far {
		if s, e := Text(p); s != "" || e != api.ErrArg {
			t.Errorf("Text(%d) = %q, %d, want no text, %d", p, s, e, api.ErrArg)
		}
	}
}

func TestReadWhatTextTells(t *testing.T) {
	for p := 0; p <= 127; p++ {
		s, e := Text(p)
		if e != api.OK {
			t.Fatalf("Text(%d) answers error %d", p, e)
		}
		checkRead(t, s, p, api.OK)
	}
}

func TestReadWrongTexts(t *testing.T) {
	for _, s := range []string{
		"",
		"wr", "xr", "xw", "Rr", "us", "sr", "uswWRxr", "usWRxwr", "rwxWRsu", "rwxRWus",
		"rr", "ww", "uu", "rwr", "rrw", "rwxRWsuu", "rwxRWsur", "rwxRWsurwxRWsu", "rxx",
		"--", "-r", "r-", "-rx", "r-x", "rx-", "u-", "rwxRWsu-", "-rwxRWsu", "---",
		"q", "X", "S", "U", "0", "5", "127", "a", "rq", "qr", "rwq", "RWX", "rwxs?", "_", "r_x",
		" ", " r", "r ", "r x", "r\n", "\tr", "- ", " -", "r,w", "\x00", "r\x00", "\x00r", "-\x00",
	} {
		checkRead(t, s, 0, api.ErrSyntax)
	}
}

// Signs of more bytes, and bytes that are none, could be mistaken where a sign is cut to its lowest byte.
func TestReadBytesBeyondASCII(t *testing.T) {
	for _, s := range []string{
		"\u0172", "\u0177", "\u0178", "r\u0177", "\U00010072", "\u012d", "é", "ré", "\ufffd", "r\ufffd", "−", "–", "ｒ", "р",
		"\xff", "r\xff", "\xffr", "\x80", "\xf2", "\xc1\xb2", "\xe0\x81\xb2", "rw\xc3", "\xed\xa0\x80",
	} {
		checkRead(t, s, 0, api.ErrSyntax)
	}
	for b := 0; b < 256; b++ {
		one := string([]byte{byte(b)})
		if strings.Contains("rwxRWsu-", one) {
			continue
		}
		for _, s := range []string{one, "r" + one, one + "r", "r" + one + "w", "rwxRWsu" + one, one + "-", "-" + one} {
			checkRead(t, s, 0, api.ErrSyntax)
		}
	}
}

// Every text of up to 6 of the signs and '-' is held against the 128 that are Text of some.
func TestReadEveryShortText(t *testing.T) {
	all := texts(t)
	level := []string{""}
	for n := 0; n <= 6; n++ {
		var next []string
		for _, s := range level {
			if p, ok := all[s]; ok {
				checkRead(t, s, p, api.OK)
			} else {
				checkRead(t, s, 0, api.ErrSyntax)
			}
			for _, sign := range "rwxRWsu-" {
				next = append(next, s+string(sign))
			}
		}
		level = next
	}
}

// Every text with one sign more, or with two neighbours in the other order, is Text of none or of another one.
func TestReadNearTexts(t *testing.T) {
	all := texts(t)
	check := func(s string) {
		if p, ok := all[s]; ok {
			checkRead(t, s, p, api.OK)
		} else {
			checkRead(t, s, 0, api.ErrSyntax)
		}
	}
	for s := range all {
		for i := 0; i <= len(s); i++ {
			for _, sign := range "rwxRWsu-q" {
				check(s[:i] + string(sign) + s[i:])
			}
			if i+1 < len(s) {
				check(s[:i] + s[i+1:i+2] + s[i:i+1] + s[i+2:])
			}
		}
	}
}

func TestReadLongTexts(t *testing.T) {
	for _, s := range []string{"r", "-", "u", "q", "rwxRWsu", "\xff"} {
		checkRead(t, strings.Repeat(s, 100000), 0, api.ErrSyntax)
	}
}

// A text that is refused half way leaves nothing behind for the next one.
func TestNothingIsKept(t *testing.T) {
	for range 3 {
		checkRead(t, "suq", 0, api.ErrSyntax)
		checkRead(t, "rw", 3, api.OK)
		checkRead(t, "rw", 3, api.OK)
		checkRead(t, "", 0, api.ErrSyntax)
		checkRead(t, "-", 0, api.OK)
	}
}

// bits says which bits n has, by halving: for numbers below 0 of what is one less than their opposite, turned over.
func bits(n int) (has [64]bool) {
	below := n < 0
	if below {
		n = -(n + 1)
	}
	for i := range has {
		has[i] = (n%2 == 1) != below
		n /= 2
	}
	return has
}

func withinOf(a, b int) bool {
	x, y := bits(a), bits(b)
	for i := range x {
		if x[i] && !y[i] {
			return false
		}
	}
	return true
}

func checkWithin(t *testing.T, a, b int, want bool) {
	t.Helper()
	if got := Within(a, b); got != want {
		t.Errorf("Within(%d, %d) = %v, want %v", a, b, got, want)
	}
}

func TestWithinWrittenOut(t *testing.T) {
	for _, c := range []struct {
		a, b int
		want bool
	}{
		{0, 0, true}, {0, 5, true}, {5, 0, false}, {5, 5, true}, {5, 7, true}, {7, 5, false}, {8, 7, false}, {1, 2, false}, {2, 1, false},
		{127, 127, true}, {126, 127, true}, {127, 126, false}, {128, 127, false}, {128, 255, true}, {127, 128, false},
		{0, -1, true}, {-1, -1, true}, {127, -1, true}, {math.MaxInt, -1, true}, {math.MinInt, -1, true},
		{-1, 0, false}, {-1, 127, false}, {-1, math.MaxInt, false}, {-2, -1, true}, {-1, -2, false}, {1, -2, false}, {2, -2, true},
		{-8, -4, true}, {-4, -8, false}, {5, -8, false}, {8, -8, true}, {0, math.MinInt, true}, {1, math.MinInt, false},
		{math.MinInt, 0, false}, {math.MinInt, math.MinInt, true}, {math.MinInt, math.MaxInt, false}, {math.MaxInt, math.MinInt, false},
		{math.MinInt, math.MinInt + 1, true}, {math.MinInt + 1, math.MinInt, false},
		{1 << 32, 5, false}, {1 << 32, 1<<32 + 5, true}, {1<<32 + 5, 5, false}, {5, 1<<32 + 5, true}, {1 << 31, api.MinNumber, true}, {api.MinNumber, 1 << 31, false},
		{1 << 62, math.MaxInt, true}, {1 << 62, 1 << 61, false},
	} {
		checkWithin(t, c.a, c.b, c.want)
	}
}

func TestWithinBitByBit(t *testing.T) {
	for a := -9; a <= 140; a++ {
		for b := -9; b <= 140; b++ {
			checkWithin(t, a, b, withinOf(a, b))
		}
	}
	far := []int{math.MinInt, math.MaxInt, 0x5555555555555555, 0x2aaaaaaaaaaaaaaa, -0x5555555555555555, api.MinNumber, api.MaxNumber, 0, -1, 127, -128}
	for bit := range 64 {
		far = append(far, 1<<bit, ^(1 << bit), 1<<bit|5)
	}
	for _, a := range far {
		for _, b := range far {
			checkWithin(t, a, b, withinOf(a, b))
		}
	}
}
