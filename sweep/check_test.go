package sweep

import (
	"math"
	"testing"

	"custodian/api"
	"custodian/step"
)

// cells is some from base on.
type cells struct{ base, n int }

// good are such as may be swept.
var good = []cells{{0, 0}, {0, 1}, {0, 399}, {0, 400}, {1, 399}, {1, 0}, {200, 200}, {399, 1}, {399, 0}, {400, 0}, {200, 10}}

// bad are such as may not, by one end, by both, or by their sum. Some sums are right if they wrap round, or are cut to fewer bits.
var bad = []cells{
	{-1, 0}, {-1, 1}, {-1, 2}, {-1, 401}, {-400, 400}, {-400, 800}, {0, -1}, {1, -1}, {2, -1}, {400, -1}, {401, -1}, {800, -400}, {-1, -1},
	{0, 401}, {1, 400}, {200, 201}, {201, 200}, {399, 2}, {400, 1}, {401, 0}, {402, 0}, {400, 400}, {401, 401},
	{1 << 31, 0}, {0, 1 << 31}, {1 << 32, 5}, {5, 1 << 32}, {1<<32 + 5, 1<<32 + 5}, {-1 << 32, 5}, {5, -1 << 32},
	{1 << 62, 1 << 62}, {1 << 63 / 2, math.MaxInt}, {math.MaxInt, 0}, {math.MaxInt, 1}, {math.MaxInt, 2}, {math.MaxInt, 401}, {math.MaxInt, math.MaxInt},
	{0, math.MaxInt}, {1, math.MaxInt}, {400, math.MaxInt}, {400, math.MaxInt - 399}, {401, math.MaxInt - 400}, {math.MaxInt - 399, 400},
	{math.MinInt, 0}, {math.MinInt, 400}, {0, math.MinInt}, {400, math.MinInt}, {math.MinInt, math.MinInt}, {math.MinInt, math.MaxInt}, {math.MaxInt, math.MinInt},
	{-1, math.MinInt}, {math.MinInt, -1}, {math.MinInt + 400, 0}, {400, math.MinInt + 1},
}

// fault makes a machine wrong in one way, whatever else is wrong already.
type fault struct {
	do func(m *api.Machine)
	e  api.Errno
}

// faults has ways in which a machine may be wrong, in the order in which chapter 9 looks for them.
// Of values that stand behind each other the one is wrong by a field, the other one by its form.
func faults() []fault {
	field, form := aNumber(api.MaxNumber+1), api.Val{Is: true, N: 1}
	return []fault{
		{func(m *api.Machine) { m.Regs[0] = form }, api.ErrForm},
		{func(m *api.Machine) { m.Regs[7] = field }, api.ErrArg},
		{func(m *api.Machine) { m.Code.Perm = 128 }, api.ErrArg},
		{func(m *api.Machine) { m.Mem = append(m.Mem, numbers(341)...) }, api.ErrLarge},
		{func(m *api.Machine) { m.Mem[0] = form }, api.ErrForm},
		{func(m *api.Machine) { m.Mem[59] = field }, api.ErrArg},
		{func(m *api.Machine) { m.Stack = append(m.Stack, frames(12)...) }, api.ErrLarge},
		{func(m *api.Machine) { m.Stack[0].Data = form }, api.ErrForm},
		{func(m *api.Machine) { m.Stack[1].Code.At = 401 }, api.ErrArg},
		{func(m *api.Machine) { m.Stack[4].Data = api.Val{Key: api.Key{Base: 205, Len: 1}} }, api.ErrForm},
		{func(m *api.Machine) { m.Out = append(m.Out, told(89)...) }, api.ErrLarge},
		{func(m *api.Machine) { m.Out[2] = math.MinInt }, api.ErrArg},
	}
}

func TestRangesThatMayBe(t *testing.T) {
	for _, c := range good {
		stays(t, api.Machine{}, c.base, c.n)
		if _, _, e := Sweep(rich(), c.base, c.n); e != api.OK {
			t.Errorf("Sweep from %d on, %d cells = %d", c.base, c.n, e)
		}
		if _, e := Has(rich(), c.base, c.n); e != api.OK {
			t.Errorf("Has from %d on, %d cells = %d", c.base, c.n, e)
		}
	}
}

func TestRangesThatMayNotBe(t *testing.T) {
	for _, c := range bad {
		refused(t, api.Machine{}, c.base, c.n, api.ErrArg)
		refused(t, rich(), c.base, c.n, api.ErrArg)
		m := rich()
		m.Code = api.Key{Perm: api.PAll, Len: 400}
		refused(t, m, c.base, c.n, api.ErrArg)
	}
}

func TestEachEnd(t *testing.T) {
	for base := -3; base <= 404; base++ {
		for n := -3; n <= 404; n++ {
			if base < 0 || n < 0 || base+n > 400 {
				refused(t, api.Machine{}, base, n, api.ErrArg)
			} else {
				stays(t, api.Machine{}, base, n)
			}
		}
	}
}

// How many cells the memory has does not count: a range may lie behind it.
func TestRangesBehindTheMemory(t *testing.T) {
	for _, n := range []int{0, 1, 60, 200, 201, 399, 400} {
		m := rich()
		m.Mem = numbers(n)
		for _, c := range []cells{{200, 200}, {300, 100}, {399, 1}, {400, 0}} {
			stays(t, m, c.base, c.n)
		}
		refused(t, m, 400, 1, api.ErrArg)
	}
}

func TestEachFault(t *testing.T) {
	for _, f := range faults() {
		m := rich()
		f.do(&m)
		for _, c := range append(good, bad...) {
			refused(t, m, c.base, c.n, f.e)
		}
	}
}

// Of all choices of faults the one that chapter 9 tells first is the answer, and ahead of what is wrong with the range.
func TestTheFirstErrorIsTold(t *testing.T) {
	all := faults()
	for choice := range 1 << len(all) {
		m, want := rich(), api.OK
		for i, f := range all {
			if choice>>i&1 == 1 {
				f.do(&m)
			}
			if choice>>i&1 == 1 && want == api.OK {
				want = f.e
			}
		}
		if want != api.OK {
			refused(t, m, 200, 10, want)
			refused(t, m, 0, 0, want)
			refused(t, m, -1, 0, want)
			refused(t, m, math.MaxInt, math.MaxInt, want)
		}
	}
}

// What is wrong is told wherever it is, also where what is struck comes ahead of it.
func TestWhatIsWrongIsToldWhereverItIs(t *testing.T) {
	hit := api.Key{Perm: 3, Base: 205, Len: 1}
	wrong := api.Key{Perm: 3, Base: 400, Len: 1}
	all := places(rich())
	for _, bad := range all {
		m := rich()
		for _, p := range all {
			p.put(&m, hit)
		}
		bad.put(&m, wrong)
		refused(t, m, 200, 10, api.ErrArg)
		refused(t, m, 200, -1, api.ErrArg)
	}
}

func TestTooMuch(t *testing.T) {
	for _, c := range append(good, bad...) {
		for _, n := range []int{401, 402, 800, 5000} {
			refused(t, api.Machine{Mem: numbers(n)}, c.base, c.n, api.ErrLarge)
		}
		for _, n := range []int{17, 18, 100} {
			refused(t, api.Machine{Stack: frames(n)}, c.base, c.n, api.ErrLarge)
		}
		for _, n := range []int{101, 102, 1000} {
			refused(t, api.Machine{Out: told(n)}, c.base, c.n, api.ErrLarge)
		}
	}
}

// Keys with fields that are far off, so that their ends wrap round.
func TestKeysThatAreFarOff(t *testing.T) {
	for _, k := range []api.Key{
		{Perm: 127, Base: math.MaxInt, Len: 1}, {Perm: 127, Base: 1, Len: math.MaxInt}, {Perm: 127, Base: math.MinInt, Len: math.MaxInt},
		{Perm: 127, Base: -1, Len: 5}, {Perm: 127, Base: 205, Len: -1}, {Perm: 127, Len: 401}, {Perm: math.MinInt}, {At: math.MaxInt}, {Seal: math.MinInt},
	} {
		for _, p := range places(rich()) {
			m := rich()
			p.put(&m, k)
			refused(t, m, 200, 10, api.ErrArg)
		}
	}
}

// A machine that is no more than may be is not refused.
func TestAsMuchAsMayBe(t *testing.T) {
	m := api.Machine{Mem: numbers(400), Stack: frames(16), Out: told(100)}
	m.Out[0], m.Out[99], m.Mem[0], m.Mem[399] = api.MinNumber, api.MaxNumber, aNumber(api.MaxNumber), aNumber(api.MinNumber)
	if e := step.Check(m); e != api.OK {
		t.Fatal(e)
	}
	stays(t, m, 200, 200)
	want := twin(m)
	for _, p := range places(m) {
		p.put(&m, api.Key{Perm: 127, Len: 400, At: 400, Seal: 63})
		p.take(&want)
	}
	sweeps(t, m, 0, 400, want, 1+8+400+2*16)
}
