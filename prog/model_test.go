package prog

import (
	"math/big"
	"regexp"
	"slices"
	"strings"
	"testing"

	"custodian/api"
	"custodian/inst"
)

// lines lays a byte 10 between each two.
func lines(all ...string) string { return strings.Join(all, "\n") }

// packOf answers the number of an instruction, as chapter 6 tells it.
func packOf(op, a, b, c int) int { return op + 32*a + 256*b + 2048*(c+2048) }

func checkRead(t *testing.T, text string, wantCells []int, wantLabels ...api.Label) {
	t.Helper()
	cells, labels, n, e := Read(text)
	if !slices.Equal(cells, wantCells) || !slices.Equal(labels, wantLabels) || n != 0 || e != api.OK {
		t.Errorf("Read(%.300q) = %v, %v, %d, %d, want %v, %v, 0, 0", text, cells, labels, n, e, wantCells, wantLabels)
	}
}

// checkWrong checks a text that is refused, and that nothing is told of it but the line.
func checkWrong(t *testing.T, text string, wantLine int, wantE api.Errno) {
	t.Helper()
	cells, labels, n, e := Read(text)
	if cells != nil || labels != nil || n != wantLine || e != wantE {
		t.Errorf("Read(%.300q) = %v, %v, %d, %d, want nothing, %d, %d", text, cells, labels, n, e, wantLine, wantE)
	}
}

var (
	nameForm   = regexp.MustCompile(`\A[a-z][a-z0-9]{0,11}\z`)
	numberForm = regexp.MustCompile(`\A(0|-?[1-9][0-9]*)\z`)
	jumpForm   = regexp.MustCompile(`\Ajump ([a-z][a-z0-9]{0,11})\z`)
	ifForm     = regexp.MustCompile(`\Aif r([0-7]) ([a-z][a-z0-9]{0,11})\z`)
)

// modelNumber reads digits, however many, apart from the program.
func modelNumber(s string) (int, bool) {
	if !numberForm.MatchString(s) {
		return 0, false
	}
	n, _ := new(big.Int).SetString(s, 10)
	if n.Cmp(big.NewInt(-1<<31)) < 0 || n.Cmp(big.NewInt(1<<31-1)) > 0 {
		return 0, false
	}
	return int(n.Int64()), true
}

// modelCell reads a line that is neither empty nor a label: what it is, or the name to which it leads.
func modelCell(line string) (n int, to string, e api.Errno) {
	if rest, found := strings.CutPrefix(line, "word "); found {
		if n, ok := modelNumber(rest); ok {
			return n, "", api.OK
		}
		return 0, "", api.ErrSyntax
	}
	if i, e := inst.Parse(line); e == api.OK {
		return packOf(i.Op, i.A, i.B, i.C), "", api.OK
	}
	if m := jumpForm.FindStringSubmatch(line); m != nil {
		return packOf(8, 0, 0, 0), m[1], api.OK
	}
	if m := ifForm.FindStringSubmatch(line); m != nil {
		return packOf(9, int(m[1][0]-'0'), 0, 0), m[2], api.OK
	}
	return 0, "", api.ErrSyntax
}

// model reads a text as the chapter has it, apart from the program.
func model(text string) ([]int, []api.Label, int, api.Errno) {
	all := strings.Split(text, "\n")
	if len(all) > 150 {
		return nil, nil, 0, api.ErrLarge
	}
	var cells []int
	var labels []api.Label
	placeOf := func(name string) int {
		return slices.IndexFunc(labels, func(l api.Label) bool { return l.Name == name })
	}
	wishes, lineOf := map[int]string{}, map[int]int{}
	for at, line := range all {
		e := api.OK
		switch {
		case len(line) > 80:
			e = api.ErrLarge
		case line == "":
		case line[len(line)-1] == ':':
			name := line[:len(line)-1]
			switch {
			case !nameForm.MatchString(name):
				e = api.ErrSyntax
			case placeOf(name) >= 0:
				e = api.ErrTwice
			case len(labels) == 20:
				e = api.ErrFull
			}
			labels = append(labels, api.Label{Name: name, At: len(cells)})
		default:
			n, to, bad := modelCell(line)
			e = bad
			if to != "" {
				wishes[len(cells)], lineOf[len(cells)] = to, at+1
			}
			cells = append(cells, n)
		}
		if e != api.OK {
			return nil, nil, at + 1, e
		}
	}
	for place := range cells {
		if to, wished := wishes[place]; wished {
			found := placeOf(to)
			if found < 0 {
				return nil, nil, lineOf[place], api.ErrNone
			}
			cells[place] += 2048 * (labels[found].At - place)
		}
	}
	return cells, labels, 0, api.OK
}

// checkModel holds Read against the model.
func checkModel(t *testing.T, text string) {
	t.Helper()
	cells, labels, n, e := model(text)
	if e != api.OK {
		checkWrong(t, text, n, e)
		return
	}
	checkRead(t, text, cells, labels...)
}

// kinds has a line of each kind that there is, right and wrong.
var kinds = []string{
	"", "a:", "b:", "r1:", "word:", "jump:", "halt:", "c9:", ":", "1:", "A:", "a b:", "a::", " a:", "a: ", "abcdefghijkl:", "abcdefghijklm:",
	"halt", "set r1 3", "add r1 r2 r3", "back", "jump 5", "jump -1", "if r1 5", "jump a", "jump b", "if r0 a", "if r7 c9", "if r8 a", "if r1 r1", "jump r1", "jump nowhere",
	"if a", "jump r1 a", "set r1 a", "word 7", "word -7", "word a", "word 007", "word 2147483648", "what", "jump A", "a", strings.Repeat("x", 80), strings.Repeat("x", 81), strings.Repeat("x", 80) + ":",
}

func TestReadOfAllKindsBehindEachOther(t *testing.T) {
	for _, first := range kinds {
		checkModel(t, first)
		for _, second := range kinds {
			checkModel(t, lines(first, second))
			for _, third := range kinds {
				checkModel(t, lines(first, second, third))
			}
		}
	}
}

func TestReadWithOneByteOtherwise(t *testing.T) {
	for _, text := range []string{
		"", "a:", "halt", "word 7", "word -70", "word 2147483647", "set r1 -5", "a:\njump a", "if r1 a\na:", "jump ab\nab:\nhalt\nif r7 ab", "a:\nb:\njump b\njump a",
	} {
		for at := range len(text) {
			for b := range 256 {
				checkModel(t, text[:at]+string([]byte{byte(b)})+text[at+1:])
				checkModel(t, text[:at]+string([]byte{byte(b)})+text[at:])
			}
			checkModel(t, text[:at]+text[at+1:])
		}
		for b := range 256 {
			checkModel(t, text+string([]byte{byte(b)}))
		}
	}
}
