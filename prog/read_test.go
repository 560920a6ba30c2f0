package prog

import (
	"slices"
	"strconv"
	"strings"
	"testing"
	"unsafe"

	"custodian/api"
	"custodian/inst"
)

func TestReadWrittenOut(t *testing.T) {
	checkRead(t, lines("start:", "set r1 3", "", "loop:", "if r1 start", "jump end", "word -7", "end:"),
		[]int{4200481, 4192297, 4198408, -7}, api.Label{Name: "start"}, api.Label{Name: "loop", At: 1}, api.Label{Name: "end", At: 4})
	checkRead(t, "a:\njump a", []int{4194312}, api.Label{Name: "a"}) // it leads 0 further
}

func TestReadOfEmptyLines(t *testing.T) {
	checkRead(t, "", nil)
	checkRead(t, "\n", nil)
	checkRead(t, "\n\n\n", nil)
	halt := packOf(0, 0, 0, 0)
	for _, text := range []string{"halt", "\nhalt", "\n\nhalt", "halt\n", "halt\n\n", "\n\nhalt\n\n"} {
		checkRead(t, text, []int{halt})
	}
	checkRead(t, "word 1\n\n\nword 2", []int{1, 2})
	checkRead(t, "\n\nword 1\n\nx:\n\nword 2\n\n", []int{1, 2}, api.Label{Name: "x", At: 1})
	checkRead(t, "jump x\n\n\nx:\n\nhalt", []int{packOf(8, 0, 0, 1), halt}, api.Label{Name: "x", At: 1})
	checkWrong(t, "\n\nwhat", 3, api.ErrSyntax) // lines that are passed over are counted
	checkWrong(t, "\n\njump x\n", 3, api.ErrNone)
	for _, blank := range []string{" ", "  ", "\t", "\r", "\x00", "\v", "\u00a0"} {
		checkWrong(t, "halt\n"+blank, 2, api.ErrSyntax)
		checkWrong(t, "halt"+blank, 1, api.ErrSyntax)
		checkWrong(t, "halt"+blank+"\nhalt", 1, api.ErrSyntax)
	}
}

// repeat answers so many lines of one text.
func repeat(line string, count int) string {
	return strings.Join(slices.Repeat([]string{line}, count), "\n")
}

func TestReadOfManyLines(t *testing.T) {
	checkRead(t, repeat("", 150), nil)
	checkRead(t, repeat("word 5", 150), repeated(5, 150))
	checkRead(t, repeat("halt", 149)+"\n", repeated(packOf(0, 0, 0, 0), 149))
	checkRead(t, "\n"+repeat("word 5", 148)+"\nend:", repeated(5, 148), api.Label{Name: "end", At: 148})
	for _, text := range []string{
		repeat("", 151), repeat("halt", 151), repeat("halt", 150) + "\n", "\n" + repeat("halt", 150), repeat("halt", 152), repeat("", 1000000), repeat("halt", 406), repeat("", 257),
		repeat("what", 151), repeat("a:", 151), repeat("jump nowhere", 151), repeat(strings.Repeat("x", 81), 151), "what\n" + repeat("halt", 150), strings.Repeat("x", 81) + "\n" + repeat("halt", 150),
	} {
		checkWrong(t, text, 0, api.ErrLarge)
	}
	checkWrong(t, repeat("halt", 149)+"\nwhat", 150, api.ErrSyntax)
	checkWrong(t, repeat("halt", 149)+"\njump x", 150, api.ErrNone)
}

func TestReadOfLongLines(t *testing.T) {
	for _, c := range []struct {
		fill string
		size int
	}{{"x", 1}, {" ", 1}, {"1", 1}, {"\x00", 1}, {"\xff", 1}, {"\r", 1}, {"é", 2}, {"€", 3}, {"😀", 4}} {
		fits := strings.Repeat(c.fill, 80/c.size)
		fits += strings.Repeat("x", 80-len(fits))
		for _, more := range []string{"x", ":", " ", "\r", strings.Repeat("y", 81), strings.Repeat("y", 176), strings.Repeat("y", 1000000)} {
			checkWrong(t, fits+more, 1, api.ErrLarge)
			checkWrong(t, lines("halt", "", fits+more, "halt"), 3, api.ErrLarge)
		}
		checkWrong(t, fits, 1, api.ErrSyntax)
		checkWrong(t, lines("halt", "", fits, "halt"), 3, api.ErrSyntax)
		checkWrong(t, fits[:79]+":", 1, api.ErrSyntax)
	}
	checkWrong(t, "word "+strings.Repeat("0", 74)+"5", 1, api.ErrSyntax)
	checkWrong(t, "word "+strings.Repeat("0", 75)+"5", 1, api.ErrLarge)
	checkWrong(t, "halt"+strings.Repeat(" ", 76), 1, api.ErrSyntax)
	checkWrong(t, "halt"+strings.Repeat(" ", 77), 1, api.ErrLarge)
	checkWrong(t, lines(repeat("halt", 149), strings.Repeat("x", 81)), 150, api.ErrLarge)
}

func TestReadOfNumbers(t *testing.T) {
	for _, n := range []int{0, 1, -1, 5, 9, 10, -10, 99, 100, 2047, 2048, -2048, -2049, 65536, 4194304, 8388607, 8388608, 1<<31 - 2, 1<<31 - 1, -1<<31 + 1, -1 << 31} {
		checkRead(t, "word "+strconv.Itoa(n), []int{n})
		checkRead(t, lines("", "word "+strconv.Itoa(n), "word 3", "end:"), []int{n, 3}, api.Label{Name: "end", At: 2})
	}
	checkRead(t, "word 2147483647\nword -2147483648", []int{2147483647, -2147483648})
}

func TestReadOfWhatIsNoNumber(t *testing.T) {
	for _, s := range []string{
		"", "2147483648", "-2147483649", "2147483650", "-2147483650", "3000000000", "4294967295", "4294967296", "4294967301", "-4294967296", "9223372036854775807", "9223372036854775808", "-9223372036854775808",
		"-9223372036854775809", "18446744073709551616", "18446744073709551621", "-18446744073709551611", strings.Repeat("9", 75), "1" + strings.Repeat("0", 74), "-" + strings.Repeat("9", 74), strings.Repeat("0", 75),
		"+5", "+0", "+", "-", "-0", "--5", "+-5", "-+5", "00", "01", "05", "007", "-05", "-00", "5-", "5+", "5.", "5.0", ".5", "5e0", "1e3", "0x5", "0X5", "0b1", "0o7", "1_000", "1,000", "_1", "1_",
		" 5", "  5", "5 ", "5  ", " ", "5 5", "- 5", "\t5", "5\t", "5\r", "\x005", "5\x00", "a", "r1", "x5", "5x", "inf", "nan", "halt", "a5", "٥", "５", "−5", "5\u00a0", "\xff", "5;", "5,", "\"5\"", "'5'",
	} {
		checkWrong(t, "word "+s, 1, api.ErrSyntax)
		checkWrong(t, "a:\nhalt\nword "+s+"\nhalt", 3, api.ErrSyntax)
	}
	for _, line := range []string{"word", "word5", "word-5", "word\t5", "word\x005", "word\u00a05", "word,5", "Word 5", "WORD 5", "words 5", "wor 5", " word 5", "wword 5", "word word 5", "5", "-5", "word 5:", "word r1 5"} {
		checkWrong(t, line, 1, api.ErrSyntax)
		checkWrong(t, "halt\n"+line, 2, api.ErrSyntax)
	}
}

// programs cuts numbers into lists of at most 150.
func programs(all []int) [][]int { return slices.Collect(slices.Chunk(all, 150)) }

// eachNumber answers the numbers of all instructions that there are.
func eachNumber() []int {
	var all []int
	for n := range 2048 * 4096 {
		if _, e := inst.Read(n); e == api.OK {
			all = append(all, n)
		}
	}
	return all
}

func TestReadOfEachInstruction(t *testing.T) {
	for _, cells := range programs(eachNumber()) {
		var all []string
		for _, n := range cells {
			i, _ := inst.Read(n)
			s, _ := inst.Text(i)
			all = append(all, s)
		}
		checkRead(t, lines(all...), cells)
	}
}

func TestReadOfInstructionsWrittenOut(t *testing.T) {
	checkRead(t, lines(
		"halt", "set r1 -5", "copy r1 r2", "add r1 r2 r3", "sub r1 r2 r3", "mul r1 r2 r3", "div r1 r2 r3", "less r1 r2 r3", "jump 2047", "if r7 -2048", "load r1 r2 3", "store r1 r2 -3",
		"move r1 r2 r3", "narrow r1 r2 r3", "drop r1 r2 127", "seal r1 r2 r3", "open r1 r2 r3", "ask r1 r2 5", "call r1 r2", "back", "here r1", "clear 255", "tell r1",
	), []int{
		packOf(0, 0, 0, 0), packOf(1, 1, 0, -5), packOf(2, 1, 2, 0), packOf(3, 1, 2, 3), packOf(4, 1, 2, 3), packOf(5, 1, 2, 3), packOf(6, 1, 2, 3), packOf(7, 1, 2, 3),
		packOf(8, 0, 0, 2047), packOf(9, 7, 0, -2048), packOf(10, 1, 2, 3), packOf(11, 1, 2, -3), packOf(12, 1, 2, 3), packOf(13, 1, 2, 3), packOf(14, 1, 2, 127), packOf(15, 1, 2, 3),
		packOf(16, 1, 2, 3), packOf(17, 1, 2, 5), packOf(18, 1, 2, 0), packOf(19, 0, 0, 0), packOf(20, 1, 0, 0), packOf(21, 0, 0, 255), packOf(22, 1, 0, 0),
	})
}

func TestReadOfWhatIsNoInstruction(t *testing.T) {
	for _, line := range []string{
		"what", "h", "Halt", "HALT", "halts", "halt 0", "halt halt", " halt", "halt ", "set r1", "set r8 5", "set r1 2048", "set r1 -2049", "set r1 +5", "set r1 05", "set r1 -0", "set  r1 5", "set r1 5 ",
		"add r1 r2", "add r1 r2 3", "jump", "jump ", "jump 2048", "jump -2049", "jump  5", "jump 5 5", "if", "if r1", "if r8 5", "if r1 2048", "drop r1 r2 128", "ask r1 r2 6", "clear 256", "clear -1", "tell",
		"halt;", "# halt", "// halt", "halt # x", "a: halt", "a:halt", "halt\r", "halt\x00", "nop", ".", "-", "0", "4194304", "\ufeffhalt",
	} {
		checkWrong(t, line, 1, api.ErrSyntax)
		checkWrong(t, lines("x:", "halt", "", line, "halt"), 4, api.ErrSyntax)
	}
}

func TestReadToldFirst(t *testing.T) {
	wrong := []struct {
		line string
		e    api.Errno
	}{{strings.Repeat("x", 81), api.ErrLarge}, {"what", api.ErrSyntax}, {"1:", api.ErrSyntax}, {"a:", api.ErrTwice}, {"word 05", api.ErrSyntax}, {"if r8 a", api.ErrSyntax}}
	for _, first := range wrong {
		for _, second := range wrong {
			checkWrong(t, lines("a:", first.line, second.line), 2, first.e)
			checkWrong(t, lines("a:", "halt", "", first.line, "jump nowhere", second.line), 4, first.e)
		}
		// What leads nowhere is told last, wherever it stands.
		checkWrong(t, lines("a:", "jump nowhere", "if r1 nothing", first.line), 4, first.e)
		checkWrong(t, lines("jump nowhere", "a:", first.line, "jump nowhere"), 3, first.e)
		checkWrong(t, lines("jump nowhere", "a:", repeat("halt", 147), first.line), 150, first.e)
	}
}

// TestReadAnswersNewMemory: what is done to one answer shows in no other one, and no name is a piece of the text.
func TestReadAnswersNewMemory(t *testing.T) {
	text := strings.Clone("first:\nword 5\nsecond:\njump first\njump second")
	cells, labels, _, _ := Read(text)
	from := uintptr(unsafe.Pointer(unsafe.StringData(text)))
	for _, l := range labels {
		if at := uintptr(unsafe.Pointer(unsafe.StringData(l.Name))); at >= from && at < from+uintptr(len(text)) {
			t.Errorf("the name %q is a piece of the text", l.Name)
		}
	}
	for i := range cells[:cap(cells)] {
		cells[:cap(cells)][i] = 99
	}
	for i := range labels[:cap(labels)] {
		labels[:cap(labels)][i] = api.Label{Name: "other", At: 99}
	}
	for range 2 {
		checkRead(t, text, []int{5, packOf(8, 0, 0, -1), packOf(8, 0, 0, -1)}, api.Label{Name: "first"}, api.Label{Name: "second", At: 1})
		checkWrong(t, "jump first", 1, api.ErrNone) // nothing is kept from call to call
	}
}
