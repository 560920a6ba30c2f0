package prog

import (
	"fmt"
	"slices"
	"strings"
	"testing"

	"custodian/api"
)

var names = []string{
	"a", "z", "m", "r", "r1", "r8", "a0", "a9", "z09", "a1b2c3", "abcdefghijkl", "a12345678901", "zzzzzzzzzzzz", "abcdefghijk9", "word", "halt", "jump", "if", "set", "back", "main", "loop", "ab", "x0", "e5", "nan",
}

var noNames = []string{
	"", "abcdefghijklm", "a123456789012", "abcdefghijklmn", "aaaaaaaaaaaaaaaaaaaaaaaa", strings.Repeat("a", 60), "0a", "1a", "9a", "05", "2048", "-a", "a-b", "a-", "A", "Z", "Ab", "aB", "abC", "ABC", "R1", "a_b", "_a", "_", "a_",
	"a.b", ".", "a.", "a,b", "a:b", "a:", ":", "::", "a;", "a b", " a", "a ", " ", "a\tb", "\ta", "a\t", "a\r", "\r", "a\x00", "\x00", "\x00a", "a\x7f", "a/", "a`", "a{", "`", "{", "/", "a@", "@", "[", "a'", "a\"", "+a", "+", "-",
	"é", "aé", "éa", "a\u0300", "ａ", "а", "a٥", "a５", "ß", "ſ", "\u212a", "aſ", "\xff", "a\xff", "\xe1", "a\xe1", "a\xb0", "a\x80", "\ufffd", "a\ufffd", "a\u00a0", "ééééééé", "éééééé", "日本",
}

func TestLabelNames(t *testing.T) {
	for _, name := range names {
		checkRead(t, name+":", nil, api.Label{Name: name})
		checkRead(t, lines("word 1", name+":", "word 2"), []int{1, 2}, api.Label{Name: name, At: 1})
		checkRead(t, lines("jump "+name, "if r3 "+name, name+":"), []int{packOf(8, 0, 0, 2), packOf(9, 3, 0, 1)}, api.Label{Name: name, At: 2})
	}
	for _, digits := range []string{"0", "1", "9", "12", "-1"} { // no names, though a jump may have them as its C
		checkWrong(t, digits+":", 1, api.ErrSyntax)
	}
	for _, name := range noNames {
		checkWrong(t, name+":", 1, api.ErrSyntax)
		checkWrong(t, lines("a:", "halt", name+":", "halt"), 3, api.ErrSyntax)
		checkWrong(t, "jump "+name, 1, api.ErrSyntax)
		checkWrong(t, lines("a:", "halt", "if r1 "+name, "halt"), 3, api.ErrSyntax)
	}
}

// TestLabelSigns holds each byte at each place of a name.
func TestLabelSigns(t *testing.T) {
	for b := range 256 {
		sign := string([]byte{byte(b)})
		letter := b >= 'a' && b <= 'z'
		digit := b >= '0' && b <= '9'
		if b == '\n' {
			continue
		}
		for at := range 12 {
			name := "abcdefghijkl"[:at] + sign + "abcdefghijkl"[at+1:]
			if letter || digit && at > 0 {
				checkRead(t, name+":\njump "+name, []int{packOf(8, 0, 0, 0)}, api.Label{Name: name})
			} else {
				checkWrong(t, name+":", 1, api.ErrSyntax)
				checkWrong(t, "jump "+name, 1, api.ErrSyntax)
			}
		}
	}
}

func TestLabelTwice(t *testing.T) {
	for _, name := range names {
		checkWrong(t, lines(name+":", name+":"), 2, api.ErrTwice)
		checkWrong(t, lines("", name+":", "halt", "other:", "", name+":", "halt"), 6, api.ErrTwice)
	}
	checkWrong(t, lines("a:", "b:", "b:", "a:"), 3, api.ErrTwice)
	checkWrong(t, lines("a:", "a:", "a:"), 2, api.ErrTwice)
	checkRead(t, lines("a:", "aa:", "aaa:", "a1:", "a11:"), nil, api.Label{Name: "a"}, api.Label{Name: "aa"}, api.Label{Name: "aaa"}, api.Label{Name: "a1"}, api.Label{Name: "a11"})
}

// manyLabels answers so many lines, each of them another label.
func manyLabels(count int) ([]string, []api.Label) {
	var all []string
	var labels []api.Label
	for i := range count {
		name := fmt.Sprintf("n%d", i)
		all = append(all, name+":")
		labels = append(labels, api.Label{Name: name})
	}
	return all, labels
}

func TestLabelsOfWhichThereAreMany(t *testing.T) {
	for count := range 21 {
		all, labels := manyLabels(count)
		checkRead(t, lines(all...), nil, labels...)
	}
	all, labels := manyLabels(20)
	last := append(all[:20:20], "jump n0", "jump n19")
	checkRead(t, lines(last...), []int{packOf(8, 0, 0, 0), packOf(8, 0, 0, -1)}, labels...)
	for count := 21; count < 30; count++ {
		more, _ := manyLabels(count)
		checkWrong(t, lines(more...), 21, api.ErrFull)
		checkWrong(t, "\nhalt\n"+lines(more...), 23, api.ErrFull)
	}
	full := lines(all...)
	checkWrong(t, full+"\n\nhalt\nm:", 23, api.ErrFull)
	checkWrong(t, full+"\nn0:", 21, api.ErrTwice) // told ahead of ErrFull
	checkWrong(t, full+"\nn19:", 21, api.ErrTwice)
	checkWrong(t, full+"\nN:", 21, api.ErrSyntax)
	checkWrong(t, full+"\n:", 21, api.ErrSyntax)
	checkWrong(t, full+"\n"+strings.Repeat("m", 80)+":", 21, api.ErrLarge)
	checkWrong(t, "jump nowhere\n"+full+"\nm:", 22, api.ErrFull)
	checkWrong(t, full+"\nwhat\nm:", 21, api.ErrSyntax)
}

func TestLabelPlaces(t *testing.T) {
	checkRead(t, "word 7\nend:", []int{7}, api.Label{Name: "end", At: 1})
	checkRead(t, "end:\nword 7", []int{7}, api.Label{Name: "end"})
	checkRead(t, "a:\nb:", nil, api.Label{Name: "a"}, api.Label{Name: "b"})
	checkRead(t, lines("word 7", "b:", "", "a:", "word 8"), []int{7, 8}, api.Label{Name: "b", At: 1}, api.Label{Name: "a", At: 1}) // in the order of their lines
	checkRead(t, lines("z:", "jump a", "y:", "halt", "a:", "if r1 z"), []int{packOf(8, 0, 0, 2), packOf(0, 0, 0, 0), packOf(9, 1, 0, -2)},
		api.Label{Name: "z"}, api.Label{Name: "y", At: 1}, api.Label{Name: "a", At: 2})
	checkRead(t, repeat("word 1", 149)+"\nend:", repeated(1, 149), api.Label{Name: "end", At: 149})
}

// repeated answers so many cells of one number.
func repeated(n, count int) []int { return slices.Repeat([]int{n}, count) }

func TestJumpsToLabels(t *testing.T) {
	checkRead(t, "jump a\na:", []int{packOf(8, 0, 0, 1)}, api.Label{Name: "a", At: 1})
	checkRead(t, "jump a\nhalt\na:\nhalt", []int{packOf(8, 0, 0, 2), packOf(0, 0, 0, 0), packOf(0, 0, 0, 0)}, api.Label{Name: "a", At: 2})
	checkRead(t, "a:\nhalt\njump a", []int{packOf(0, 0, 0, 0), packOf(8, 0, 0, -1)}, api.Label{Name: "a"})
	checkRead(t, lines("jump b", "if r1 a", "a:", "b:", "jump a", "if r2 b"),
		[]int{packOf(8, 0, 0, 2), packOf(9, 1, 0, 1), packOf(8, 0, 0, 0), packOf(9, 2, 0, -1)}, api.Label{Name: "a", At: 2}, api.Label{Name: "b", At: 2})
	for r := range 8 {
		checkRead(t, fmt.Sprintf("halt\na:\nif r%d a", r), []int{packOf(0, 0, 0, 0), packOf(9, r, 0, 0)}, api.Label{Name: "a", At: 1})
	}
	// Each distance that 150 lines have room for.
	for far := range 149 {
		halts := repeated(packOf(0, 0, 0, 0), far)
		ahead := lines(append([]string{"a:"}, strings.Fields(strings.Repeat("halt ", far))...)...)
		checkRead(t, ahead+"\njump a", append(halts[:far:far], packOf(8, 0, 0, -far)), api.Label{Name: "a"})
		checkRead(t, ahead+"\nif r5 a", append(halts[:far:far], packOf(9, 5, 0, -far)), api.Label{Name: "a"})
		behind := lines(append(strings.Fields(strings.Repeat("halt ", far)), "a:")...)
		checkRead(t, "jump a\n"+behind, append([]int{packOf(8, 0, 0, far+1)}, halts...), api.Label{Name: "a", At: far + 1})
		checkRead(t, "if r5 a\n"+behind, append([]int{packOf(9, 5, 0, far+1)}, halts...), api.Label{Name: "a", At: far + 1})
	}
}

func TestJumpsThatAreNone(t *testing.T) {
	for _, line := range []string{
		"if r8 a", "if r9 a", "if r10 a", "if r07 a", "if r00 a", "if r-1 a", "if r a", "if 1 a", "if R1 a", "if x1 a", "if a", "if a a", "if a r1", "if a 5", "if  a", "if r1  a", "if  r1 a", "if r1 a ", " if r1 a", "if r1 a a", "if r1 5 a", "if r1 a 5",
		"if r1 r2 a", "if r1a", "ifr1 a", "if\tr1 a", "if r1\ta", "If r1 a", "IF r1 a", "iff r1 a", "if r1,a", "if r1 a,", "if r1 +a", "if r1 -a", "if r1 a+1", "if r1 0a", "if r1 A",
		"jump  a", "jump a ", " jump a", "jump a a", "jump r1 a", "jump a r1", "jump a 5", "jump 5 a", "jump 0 a", "jumpa", "jump\ta", "Jump a", "JUMP a", "jumps a", "jump a,", "jump +a", "jump -a", "jump a+1", "jump 0a", "jump A", "jump a\r", "jump :a",
		"halt a", "set r1 a", "set a 5", "set a", "copy r1 a", "copy a r1", "add r1 r2 a", "sub r1 r2 a", "mul r1 r2 a", "div r1 r2 a", "less r1 r2 a", "load r1 r2 a", "load r1 a 5", "store r1 r2 a", "move r1 r2 a", "narrow r1 r2 a",
		"drop r1 r2 a", "seal r1 r2 a", "open r1 r2 a", "ask r1 r2 a", "call r1 a", "call a", "back a", "here a", "clear a", "tell a", "word a", "a", "goto a", "a a", "r1 a", "5 a", " a",
	} {
		checkWrong(t, lines("a:", line), 2, api.ErrSyntax)
		checkWrong(t, lines("halt", line, "a:"), 2, api.ErrSyntax)
		checkWrong(t, line, 1, api.ErrSyntax) // also where there is no label: ahead of ErrNone
	}
}

func TestJumpsToNowhere(t *testing.T) {
	for _, line := range []string{"jump b", "if r1 b", "jump aa", "jump a1", "jump r1", "if r1 r1", "jump jump", "if r7 halt", "jump word", "jump abcdefghijkl"} {
		checkWrong(t, line, 1, api.ErrNone)
		checkWrong(t, lines("a:", "halt", "", line, "halt"), 4, api.ErrNone)
		checkWrong(t, lines("a:", "jump a", line, "jump also", line), 3, api.ErrNone) // the first such line is told
		checkWrong(t, lines("jump a", line, "a:"), 2, api.ErrNone)
	}
	checkWrong(t, "jump a\njump b", 1, api.ErrNone)
	checkWrong(t, lines("jump b", "jump a", "b:"), 2, api.ErrNone)
	checkWrong(t, lines("abc:", "jump ab"), 2, api.ErrNone)
	checkWrong(t, lines("ab:", "jump abc"), 2, api.ErrNone)
}

// TestJumpsTooFar: within 150 lines none leads so far, so what is read is made here by hand.
func TestJumpsTooFar(t *testing.T) {
	for _, c := range []struct {
		from, to int
		e        api.Errno
	}{
		{0, 0, api.OK}, {0, 2047, api.OK}, {1, 2048, api.OK}, {2048, 0, api.OK}, {2049, 1, api.OK},
		{0, 2048, api.ErrRange}, {1, 2049, api.ErrRange}, {2049, 0, api.ErrRange}, {2050, 1, api.ErrRange}, {0, 4096, api.ErrRange}, {4096, 0, api.ErrRange},
	} {
		p := program{cells: make([]int, 5000), labels: []api.Label{{Name: "a", At: c.to}}, leads: []lead{{line: 7, at: c.from, jump: api.Inst{Op: api.If, A: 3}, to: "a"}}}
		wantLine, want := 0, packOf(9, 3, 0, c.to-c.from)
		if c.e != api.OK {
			wantLine, want = 7, 0
		}
		if line, e := p.join(); line != wantLine || e != c.e || p.cells[c.from] != want {
			t.Errorf("from %d to %d: line %d, error %d, cell %d, want %d, %d, %d", c.from, c.to, line, e, p.cells[c.from], wantLine, c.e, want)
		}
	}
}
