package inst

import (
	"fmt"
	"strconv"
	"strings"
	"testing"

	"custodian/api"
)

// textOf answers the text of an instruction, part by part.
func textOf(word, has string, i api.Inst) string {
	parts := []string{word}
	for _, part := range strings.Fields(has) {
		switch part {
		case "A":
			parts = append(parts, fmt.Sprintf("r%d", i.A))
		case "B":
			parts = append(parts, fmt.Sprintf("r%d", i.B))
		case "r":
			parts = append(parts, fmt.Sprintf("r%d", i.C))
		case "n", "p", "q", "m":
			parts = append(parts, fmt.Sprint(i.C))
		}
	}
	return strings.Join(parts, " ")
}

func checkText(t *testing.T, i api.Inst, want string, wantE api.Errno) {
	t.Helper()
	if s, e := Text(i); s != want || e != wantE {
		t.Errorf("Text(%+v) = %q, %d, want %q, %d", i, s, e, want, wantE)
	}
}

func checkParse(t *testing.T, s string, want api.Inst, wantE api.Errno) {
	t.Helper()
	if i, e := Parse(s); i != want || e != wantE {
		t.Errorf("Parse(%.100q) = %+v, %d, want %+v, %d", s, i, e, want, wantE)
	}
}

// refused checks texts that are Text of none.
func refused(t *testing.T, texts ...string) {
	t.Helper()
	for _, s := range texts {
		checkParse(t, s, api.Inst{}, api.ErrSyntax)
	}
}

func TestTextWrittenOut(t *testing.T) {
	for _, c := range []struct {
		i api.Inst
		s string
	}{
		{api.Inst{}, "halt"},
		{api.Inst{Op: api.Set, A: 1, C: -5}, "set r1 -5"}, {api.Inst{Op: api.Set}, "set r0 0"}, {api.Inst{Op: api.Set, A: 7, C: 2047}, "set r7 2047"}, {api.Inst{Op: api.Set, C: -2048}, "set r0 -2048"},
		{api.Inst{Op: api.Copy, A: 1, B: 2}, "copy r1 r2"},
		{api.Inst{Op: api.Add, A: 1, B: 2, C: 3}, "add r1 r2 r3"}, {api.Inst{Op: api.Sub, A: 7, C: 7}, "sub r7 r0 r7"}, {api.Inst{Op: api.Mul}, "mul r0 r0 r0"},
		{api.Inst{Op: api.Div, B: 4}, "div r0 r4 r0"}, {api.Inst{Op: api.Less, A: 3, B: 2, C: 1}, "less r3 r2 r1"},
		{api.Inst{Op: api.Jump}, "jump 0"}, {api.Inst{Op: api.Jump, C: -1}, "jump -1"}, {api.Inst{Op: api.If, A: 7, C: 3}, "if r7 3"},
		{api.Inst{Op: api.Load, A: 1, B: 2, C: -3}, "load r1 r2 -3"}, {api.Inst{Op: api.Store, A: 1, B: 2, C: 10}, "store r1 r2 10"},
		{api.Inst{Op: api.Move, A: 1, B: 2, C: 3}, "move r1 r2 r3"}, {api.Inst{Op: api.Narrow, A: 1, B: 2, C: 3}, "narrow r1 r2 r3"},
		{api.Inst{Op: api.Drop, A: 1, B: 2, C: 127}, "drop r1 r2 127"}, {api.Inst{Op: api.Seal, A: 1, B: 2, C: 3}, "seal r1 r2 r3"}, {api.Inst{Op: api.Open, A: 1, B: 2, C: 3}, "open r1 r2 r3"},
		{api.Inst{Op: api.Ask, B: 1, C: 5}, "ask r0 r1 5"}, {api.Inst{Op: api.Call, A: 5, B: 6}, "call r5 r6"}, {api.Inst{Op: api.Back}, "back"},
		{api.Inst{Op: api.Here, A: 4}, "here r4"}, {api.Inst{Op: api.Clear, C: 255}, "clear 255"}, {api.Inst{Op: api.Clear}, "clear 0"}, {api.Inst{Op: api.Tell, A: 6}, "tell r6"},
	} {
		checkText(t, c.i, c.s, api.OK)
		checkParse(t, c.s, c.i, api.OK)
	}
}

func TestTextAndParseOfEachInstruction(t *testing.T) {
	eachInst(func(word, has string, i api.Inst) {
		s := textOf(word, has, i)
		checkText(t, i, s, api.OK)
		checkParse(t, s, i, api.OK)
	})
}

func TestTextOfWhatMayNotBe(t *testing.T) {
	for _, i := range wrongInsts() {
		checkText(t, i, "", api.ErrArg)
	}
}

// samples has texts of each Op, with the least and the greatest of each field, and others.
func samples() map[string]api.Inst {
	all := map[string]api.Inst{}
	for _, row := range table {
		as, bs, cs := spans(row.has)
		for _, i := range []api.Inst{
			{A: as.least, B: bs.least, C: cs.least}, {A: as.greatest, B: bs.greatest, C: cs.greatest},
			{A: min(3, as.greatest), B: min(5, bs.greatest), C: min(4, cs.greatest)}, {A: min(1, as.greatest), C: max(-5, cs.least)},
			{B: min(2, bs.greatest), C: min(10, cs.greatest)}, {},
		} {
			i.Op = row.op
			all[textOf(row.word, row.has, i)] = i
		}
	}
	return all
}

func TestParseOfWordsThatAreNone(t *testing.T) {
	refused(t,
		"", " ", "  ", "word", "word 5", "nop", "h", "hal", "halts", "haltt", "hhalt", "r1", "5", "-5", "0", "r", "-", "jumps 5", "jum 5", "iff r1 5", "i r1 5", "adds r1 r2 r3",
		"HALT", "Halt", "halT", "Jump 5", "JUMP 5", "SET r1 5", "Add r1 r2 r3", "cLear 5", "halt:", ":", "a:", "halt\n", "\nhalt", "halt\nhalt", "halt;", "halt\x00", "\x00halt", "\x00",
		"set,r1,5", "setr1 5", "set r15", "addr1 r2 r3", "clear255", "jump5", "jump-5", "callr1 r2", "halt halt", "back back", "set set", "tell tell",
	)
	for op := -1; op <= 23; op++ {
		refused(t, strconv.Itoa(op), "op "+strconv.Itoa(op), strconv.Itoa(op)+" r1 r2 r3")
	}
	for s := range samples() {
		word, rest, _ := strings.Cut(s, " ")
		refused(t, strings.ToUpper(word)+s[len(word):], strings.ToUpper(word[:1])+s[1:], strings.TrimSuffix(" "+rest, " "), rest, word[1:]+s[len(word):], word+word+s[len(word):], word+"s"+s[len(word):])
	}
}

func TestParseOfTooFewAndTooManyParts(t *testing.T) {
	refused(t,
		"set", "set r1", "copy", "copy r1", "add", "add r1", "add r1 r2", "jump", "if", "if r1", "if 5", "load r1 r2", "store r1", "ask r1 r2", "ask r1", "call r1", "here", "clear", "tell",
		"set 5", "copy 1 2", "load r1 5", "drop r1 5", "ask 5", "halt r0", "halt 0", "halt r0 r0 0", "back 0", "back r0", "set r1 r0 5", "set r1 5 0", "set r1 5 5", "copy r1 r2 r0", "copy r1 r2 0", "copy r1 r2 r3",
		"add r1 r2 r3 r4", "add r1 r2 r3 0", "jump r0 5", "jump 5 0", "jump 5 5", "jump r0 r0 5", "if r1 r0 5", "if r1 5 0", "here r1 r0", "here r1 0", "clear r0 5", "clear 5 0", "tell r1 r0", "tell r1 0", "call r1 r2 0",
	)
	for s := range samples() {
		for rest, found := cutLast(s); found; rest, found = cutLast(rest) {
			refused(t, rest, rest+" ")
		}
		for _, more := range []string{"0", "r0", "5", "r5", "halt", "-1", "r", "-", "x", s} {
			refused(t, s+" "+more, more+" "+s)
		}
	}
}

// cutLast answers s without its last part, if it has more than one.
func cutLast(s string) (string, bool) {
	at := strings.LastIndex(s, " ")
	if at < 0 {
		return s, false
	}
	return s[:at], true
}

func TestParseOfBlanks(t *testing.T) {
	refused(t, "halt ", " halt", "halt  ", "  halt", "set  r1 5", "set r1  5", " set r1 5", "set r1 5 ", "set r1 5  ", "jump  5", "jump 5 ", "set r 1 5", "set r1 - 5", "set r1 1 0", "h alt")
	for s := range samples() {
		refused(t, s+" ", " "+s)
		for at := range s {
			if s[at] != ' ' {
				continue
			}
			for _, blank := range []string{"", "  ", "   ", "\t", "\n", "\r", "\v", "\f", ",", ", ", " ,", "\x00", "_", "\u00a0", "\u2003", "\t ", " \t"} {
				refused(t, s[:at]+blank+s[at+1:])
			}
		}
	}
}

func TestParseOfRegisters(t *testing.T) {
	for _, reg := range []string{
		"", "r", "1", "7", "8", "-1", "r8", "r9", "r10", "r11", "r17", "r70", "r77", "r-1", "r-0", "r+1", "r01", "r07", "r00", "r007", "rr1", "r1r", "R1", "R", "R7", "q1", "x1", "1r", "r1 ", " r1",
		"r1,", "r1:", "r1.0", "r1e0", "r0x1", "r_1", "r1_", "r0_1", "r0b1", "r0o1", "r 1", "r255", "r256", "r257", "r263", "r4294967296", "r4294967303", "r18446744073709551616", "r18446744073709551623",
		"r-18446744073709551615", "r9223372036854775807", "r9223372036854775808", "ra", "r\x01", "r\x00", "r1\x00", "r1\n", "r\xff", "r²", "r１", "r١", "г1", "r" + strings.Repeat("0", 1000) + "1", "r" + strings.Repeat("9", 10000),
	} {
		refused(t,
			"set "+reg+" 5", "copy "+reg+" r2", "copy r1 "+reg, "add "+reg+" r2 r3", "add r1 "+reg+" r3", "add r1 r2 "+reg, "if "+reg+" 5", "load "+reg+" r2 5", "load r1 "+reg+" 5",
			"seal r1 r2 "+reg, "drop "+reg+" r2 5", "ask r1 "+reg+" 5", "call "+reg+" r2", "call r1 "+reg, "here "+reg, "tell "+reg,
		)
	}
}

// Numbers that are told in another way than by their digits, whatever they stand for.
func TestParseOfNumbersToldOtherwise(t *testing.T) {
	for _, n := range []string{
		"", "+", "-", "+0", "+5", "+1", "-0", "00", "000", "05", "005", "-05", "-00", "+05", "--5", "-+5", "+-5", "- 5", "5-", "5+", "r5", "r0", "R5", "x", "five", "a", "5a", "a5",
		"0x5", "0X5", "0b1", "0o5", "1_0", "_1", "1_", "0_5", "1e0", "1E0", "5.", "5.0", ".5", "5,", "5:", "5;", "'5'", "\"5\"", "(5)", "5\x00", "\x005", "\x05", "\x00", "5\n", "\n5", "5\t", "\t5", "5\r",
		"５", "٥", "५", "−5", "–5", "\u00a05", "5\u00a0", "\xff", "5\xff", "\xff5", "\xb5", "\x80", "²", "inf", "nan", "nil", "true",
		strings.Repeat("0", 20), strings.Repeat("0", 1000) + "5", "-" + strings.Repeat("0", 1000) + "5", strings.Repeat("-", 1000) + "5", strings.Repeat("5", 100000), "-" + strings.Repeat("5", 100000), "1" + strings.Repeat("0", 100000),
	} {
		refused(t, "set r1 "+n, "jump "+n, "if r1 "+n, "load r1 r2 "+n, "store r1 r2 "+n, "drop r1 r2 "+n, "ask r1 r2 "+n, "clear "+n)
	}
}

// Each kind of C as a number that it may be, and as one that it may not.
func TestParseOfNumbersBeyondBothEnds(t *testing.T) {
	for _, n := range edges {
		digits := strconv.Itoa(n)
		for _, row := range table {
			_, _, cs := spans(row.has)
			if !strings.Contains(row.has, "C") || strings.HasSuffix(row.has, "r") {
				continue
			}
			i := api.Inst{Op: row.op, C: n}
			s := textOf(row.word, row.has, i)
			if !strings.HasSuffix(s, " "+digits) {
				t.Fatalf("%q does not end with %s", s, digits)
			}
			if cs.has(n) {
				checkParse(t, s, i, api.OK)
			} else {
				refused(t, s)
			}
		}
	}
	// Numbers that no int can be, among them such as may be where their upper bits are cut off.
	for _, n := range []string{
		"9223372036854775808", "-9223372036854775809", "18446744073709551615", "18446744073709551616", "18446744073709551617", "18446744073709551621", "-18446744073709551616", "-18446744073709551611",
		"340282366920938463463374607431768211456", "340282366920938463463374607431768211461", "99999999999999999999999999999999", "-99999999999999999999999999999999",
	} {
		refused(t, "set r1 "+n, "jump "+n, "if r1 "+n, "load r1 r2 "+n, "store r1 r2 "+n, "drop r1 r2 "+n, "ask r1 r2 "+n, "clear "+n)
	}
}

// Each sample with any byte in each place, ahead of it, or with one less, is told as it was or refused.
func TestParseOfNearTexts(t *testing.T) {
	texts := map[string]api.Inst{}
	eachInst(func(word, has string, i api.Inst) {
		texts[textOf(word, has, i)] = i
	})
	check := func(s string) {
		i, ok := texts[s]
		want := api.ErrSyntax
		if ok {
			want = api.OK
		}
		checkParse(t, s, i, want)
	}
	for s := range samples() {
		for at := 0; at <= len(s); at++ {
			for b := range 256 {
				one := string([]byte{byte(b)})
				check(s[:at] + one + s[at:])
				if at < len(s) {
					check(s[:at] + one + s[at+1:])
				}
			}
			if at < len(s) {
				check(s[:at] + s[at+1:])
			}
			check(s[:at])
			check(s[at:])
		}
	}
}

func TestParseOfLongTexts(t *testing.T) {
	for _, s := range []string{"halt", "set r1 5", "set r1 5 ", " ", "r", "-", "5", "\n", "\xff", "add r1 r2 r3", "halt ", "r1 "} {
		refused(t, strings.Repeat(s, 100000), "set r1 "+strings.Repeat(s, 100000), strings.Repeat(s, 100000)+" r1 5", "add r1 r2 r3 "+strings.Repeat(s, 100000))
	}
}

// What is parsed of a text is told as that text, and a text that is refused leaves nothing behind for the next one.
func TestWhatIsParsedIsToldSo(t *testing.T) {
	for s, want := range samples() {
		for range 2 {
			refused(t, s+" r9", "r1 "+s)
			i, e := Parse(s)
			if i != want || e != api.OK {
				t.Errorf("Parse(%q) = %+v, %d, want %+v, 0", s, i, e, want)
			}
			checkText(t, i, s, api.OK)
		}
	}
}
