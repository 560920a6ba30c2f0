package inst

import (
	"math"
	"strings"
	"testing"

	"custodian/api"
)

// table is the chapter's, written out apart from the program's own: by Op the word, and what its instructions have.
var table = []struct {
	op        int
	word, has string
}{
	{0, "halt", ""}, {8, "jump", "C n"}, {16, "open", "A B C r"},
	{1, "set", "A C n"}, {9, "if", "A C n"}, {17, "ask", "A B C q"},
	{2, "copy", "A B"}, {10, "load", "A B C n"}, {18, "call", "A B"},
	{3, "add", "A B C r"}, {11, "store", "A B C n"}, {19, "back", ""},
	{4, "sub", "A B C r"}, {12, "move", "A B C r"}, {20, "here", "A"},
	{5, "mul", "A B C r"}, {13, "narrow", "A B C r"}, {21, "clear", "C m"},
	{6, "div", "A B C r"}, {14, "drop", "A B C p"}, {22, "tell", "A"},
	{7, "less", "A B C r"}, {15, "seal", "A B C r"},
}

// span is from where to where a field may be.
type span struct{ least, greatest int }

func (s span) has(n int) bool { return n >= s.least && n <= s.greatest }

// spans says what A, B and C may be, if an instruction has what the table says.
func spans(has string) (a, b, c span) {
	if strings.Contains(has, "A") {
		a = span{0, 7}
	}
	if strings.Contains(has, "B") {
		b = span{0, 7}
	}
	if strings.Contains(has, "C") {
		c = map[byte]span{'r': {0, 7}, 'n': {-2048, 2047}, 'p': {0, 127}, 'q': {0, 5}, 'm': {0, 255}}[has[len(has)-1]]
	}
	return a, b, c
}

// hasOf answers what the table says of an Op, and whether it says anything.
func hasOf(op int) (string, bool) {
	for _, row := range table {
		if row.op == op {
			return row.has, true
		}
	}
	return "", false
}

// mayBe says whether i is an instruction.
func mayBe(i api.Inst) bool {
	has, ok := hasOf(i.Op)
	a, b, c := spans(has)
	return ok && a.has(i.A) && b.has(i.B) && c.has(i.C)
}

// eachInst calls do with every instruction that there is.
func eachInst(do func(word, has string, i api.Inst)) {
	for _, row := range table {
		as, bs, cs := spans(row.has)
		for a := as.least; a <= as.greatest; a++ {
			for b := bs.least; b <= bs.greatest; b++ {
				for c := cs.least; c <= cs.greatest; c++ {
					do(row.word, row.has, api.Inst{Op: row.op, A: a, B: b, C: c})
				}
			}
		}
	}
}

// far has numbers that no field may be, among them such as may be where their upper bits are cut off.
var far = []int{
	1 << 8, 1<<8 + 5, 1 << 12, -1 << 12, 1 << 16, 1<<16 + 5, -1 << 16, 1 << 31, 1<<31 - 1, -1 << 31, 1 << 32, 1<<32 + 5, -1 << 32, -1<<32 + 5,
	1 << 53, -1 << 53, 1 << 59, 1 << 62, -1 << 62, math.MaxInt, math.MaxInt - 1, math.MinInt, math.MinInt + 1, math.MinInt + 5,
}

// edges has numbers at and beyond both ends of all that a field may be.
var edges = append([]int{
	-5000, -4097, -4096, -4095, -2050, -2049, -2048, -2047, -256, -128, -8, -7, -2, -1, 0, 1, 2, 3, 4, 5, 6, 7, 8, 9, 15, 16, 31, 32,
	63, 64, 126, 127, 128, 129, 254, 255, 256, 257, 2046, 2047, 2048, 2049, 4095, 4096, 5000,
}, far...)

// noOps has numbers that are no Op.
var noOps = append([]int{
	-1, -2, -3, -8, -16, -22, -23, -24, -31, -32, -64, 23, 24, 25, 26, 27, 28, 29, 30, 31, 32, 33, 54, 55, 63, 64, 127, 128, 255, 257, 1000,
}, far...)

// wrongInsts has what is no instruction, for each reason.
func wrongInsts() []api.Inst {
	var all []api.Inst
	for _, op := range noOps {
		all = append(all, api.Inst{Op: op}, api.Inst{Op: op, A: 1, B: 2, C: 3}, api.Inst{Op: op, A: -1, B: 8, C: 1 << 20})
	}
	for _, row := range table {
		for _, n := range edges {
			for _, m := range []int{0, 3, n, -n} {
				for _, i := range []api.Inst{{Op: row.op, A: n, B: m, C: m}, {Op: row.op, A: m, B: n, C: m}, {Op: row.op, A: m, B: m, C: n}} {
					if !mayBe(i) {
						all = append(all, i)
					}
				}
			}
		}
	}
	return all
}

func checkCheck(t *testing.T, i api.Inst, want api.Errno) {
	t.Helper()
	if e := Check(i); e != want {
		t.Errorf("Check(%+v) = %d, want %d", i, e, want)
	}
}

func TestTableHasEachOp(t *testing.T) {
	if len(table) != 23 {
		t.Errorf("%d rows, want 23", len(table))
	}
	for op := 0; op <= 22; op++ {
		if _, ok := hasOf(op); !ok {
			t.Errorf("no row has the Op %d", op)
		}
	}
}

func TestCheckWrittenOut(t *testing.T) {
	for _, c := range []struct {
		i    api.Inst
		want api.Errno
	}{
		{api.Inst{}, api.OK}, {api.Inst{A: 1}, api.ErrArg}, {api.Inst{B: 1}, api.ErrArg}, {api.Inst{C: 1}, api.ErrArg}, {api.Inst{C: -1}, api.ErrArg},
		{api.Inst{Op: api.Set, A: 7, C: -2048}, api.OK}, {api.Inst{Op: api.Set, A: 7, C: 2047}, api.OK},
		{api.Inst{Op: api.Set, A: 8}, api.ErrArg}, {api.Inst{Op: api.Set, A: -1}, api.ErrArg}, {api.Inst{Op: api.Set, B: 1}, api.ErrArg},
		{api.Inst{Op: api.Set, C: -2049}, api.ErrArg}, {api.Inst{Op: api.Set, C: 2048}, api.ErrArg},
		{api.Inst{Op: api.Copy, A: 7, B: 7}, api.OK}, {api.Inst{Op: api.Copy, A: 7, B: 8}, api.ErrArg}, {api.Inst{Op: api.Copy, C: 1}, api.ErrArg},
		{api.Inst{Op: api.Add, A: 7, B: 7, C: 7}, api.OK}, {api.Inst{Op: api.Add, C: 8}, api.ErrArg}, {api.Inst{Op: api.Add, C: -1}, api.ErrArg},
		{api.Inst{Op: api.Jump, C: -2048}, api.OK}, {api.Inst{Op: api.Jump, A: 1, C: 1}, api.ErrArg}, {api.Inst{Op: api.Jump, B: 1, C: 1}, api.ErrArg},
		{api.Inst{Op: api.If, A: 7, C: 2047}, api.OK}, {api.Inst{Op: api.If, A: 7, B: 1, C: 3}, api.ErrArg},
		{api.Inst{Op: api.Load, A: 7, B: 7, C: -2048}, api.OK}, {api.Inst{Op: api.Store, A: 7, B: 7, C: 2047}, api.OK}, {api.Inst{Op: api.Store, C: 2048}, api.ErrArg},
		{api.Inst{Op: api.Drop, A: 7, B: 7, C: 127}, api.OK}, {api.Inst{Op: api.Drop, C: 128}, api.ErrArg}, {api.Inst{Op: api.Drop, C: -1}, api.ErrArg},
		{api.Inst{Op: api.Ask, A: 7, B: 7, C: 5}, api.OK}, {api.Inst{Op: api.Ask, C: 6}, api.ErrArg}, {api.Inst{Op: api.Ask, C: -1}, api.ErrArg},
		{api.Inst{Op: api.Call, A: 7, B: 7}, api.OK}, {api.Inst{Op: api.Call, C: 1}, api.ErrArg},
		{api.Inst{Op: api.Back}, api.OK}, {api.Inst{Op: api.Back, A: 1}, api.ErrArg}, {api.Inst{Op: api.Here, A: 7}, api.OK}, {api.Inst{Op: api.Here, B: 1}, api.ErrArg},
		{api.Inst{Op: api.Clear, C: 255}, api.OK}, {api.Inst{Op: api.Clear, C: 256}, api.ErrArg}, {api.Inst{Op: api.Clear, C: -1}, api.ErrArg}, {api.Inst{Op: api.Clear, A: 1}, api.ErrArg},
		{api.Inst{Op: api.Tell, A: 7}, api.OK}, {api.Inst{Op: api.Tell, A: 8}, api.ErrArg}, {api.Inst{Op: api.Tell, C: 1}, api.ErrArg},
		{api.Inst{Op: 23}, api.ErrArg}, {api.Inst{Op: -1}, api.ErrArg}, {api.Inst{Op: math.MaxInt}, api.ErrArg}, {api.Inst{Op: math.MinInt}, api.ErrArg},
	} {
		checkCheck(t, c.i, c.want)
	}
}

func TestCheckOfEachInstruction(t *testing.T) {
	eachInst(func(_, _ string, i api.Inst) {
		checkCheck(t, i, api.OK)
	})
}

func TestCheckOfWhatMayNotBe(t *testing.T) {
	for _, i := range wrongInsts() {
		checkCheck(t, i, api.ErrArg)
	}
}

func TestCheckOfNoOp(t *testing.T) {
	for op := -3000; op <= 3000; op++ {
		want := api.ErrArg
		if op >= 0 && op <= 22 {
			want = api.OK // with nothing but zeros each of them may be
		}
		checkCheck(t, api.Inst{Op: op}, want)
	}
}

// Each field at each number of a range that goes beyond both ends, while the others may be so.
func TestCheckFieldByField(t *testing.T) {
	for op := 0; op <= 22; op++ {
		for n := -5000; n <= 5000; n++ {
			for _, i := range []api.Inst{{Op: op, A: n}, {Op: op, B: n}, {Op: op, C: n}} {
				want := api.ErrArg
				if mayBe(i) {
					want = api.OK
				}
				checkCheck(t, i, want)
			}
		}
	}
}

// Fields at all edges at one time: no two that may not be make up for each other.
func TestCheckOfEdgesTogether(t *testing.T) {
	for op := -1; op <= 23; op++ {
		for _, a := range edges {
			for _, b := range edges {
				for _, c := range edges {
					i := api.Inst{Op: op, A: a, B: b, C: c}
					want := api.ErrArg
					if mayBe(i) {
						want = api.OK
					}
					if e := Check(i); e != want {
						t.Fatalf("Check(%+v) = %d, want %d", i, e, want)
					}
				}
			}
		}
	}
}
