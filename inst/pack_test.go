package inst

import (
	"math"
	"testing"

	"custodian/api"
)

// packOf answers the number of an instruction, as the chapter tells it.
func packOf(i api.Inst) int { return i.Op + 32*i.A + 256*i.B + 2048*(i.C+2048) }

// beyond is one more than the greatest number that four full fields could make.
const beyond = 2048 * 4096

func checkPack(t *testing.T, i api.Inst, want int, wantE api.Errno) {
	t.Helper()
	if n, e := Pack(i); n != want || e != wantE {
		t.Errorf("Pack(%+v) = %d, %d, want %d, %d", i, n, e, want, wantE)
	}
}

func checkRead(t *testing.T, n int, want api.Inst, wantE api.Errno) {
	t.Helper()
	if i, e := Read(n); i != want || e != wantE {
		t.Errorf("Read(%d) = %+v, %d, want %+v, %d", n, i, e, want, wantE)
	}
}

func TestPackWrittenOut(t *testing.T) {
	for _, c := range []struct {
		i api.Inst
		n int
	}{
		{api.Inst{}, 4194304},
		{api.Inst{Op: api.Set}, 4194305}, {api.Inst{Op: api.Set, A: 1}, 4194337}, {api.Inst{Op: api.Set, A: 7, C: 1}, 4196577},
		{api.Inst{Op: api.Set, C: -2048}, 1}, {api.Inst{Op: api.Set, C: -2047}, 2049}, {api.Inst{Op: api.Set, C: 2047}, 8386561}, {api.Inst{Op: api.Set, C: -1}, 4192257},
		{api.Inst{Op: api.Copy, B: 1}, 4194562}, {api.Inst{Op: api.Copy, A: 7, B: 7}, 4196322},
		{api.Inst{Op: api.Add, A: 1, B: 2, C: 3}, 4200995}, {api.Inst{Op: api.Less, A: 7, B: 7, C: 7}, 4210663},
		{api.Inst{Op: api.Jump, C: -2048}, 8}, {api.Inst{Op: api.If, A: 7, C: -2048}, 233}, {api.Inst{Op: api.Load, C: -2048}, 10},
		{api.Inst{Op: api.Store, A: 7, B: 7, C: 2047}, 8388587}, {api.Inst{Op: api.Load, A: 7, B: 7, C: 2047}, 8388586},
		{api.Inst{Op: api.Drop, C: 127}, 4454414}, {api.Inst{Op: api.Ask, C: 5}, 4204561}, {api.Inst{Op: api.Back}, 4194323},
		{api.Inst{Op: api.Clear, C: 255}, 4716565}, {api.Inst{Op: api.Tell, A: 7}, 4194550},
	} {
		checkPack(t, c.i, c.n, api.OK)
		checkRead(t, c.n, c.i, api.OK)
	}
}

func TestPackAndReadOfEachInstruction(t *testing.T) {
	eachInst(func(_, _ string, i api.Inst) {
		checkPack(t, i, packOf(i), api.OK)
		checkRead(t, packOf(i), i, api.OK)
	})
}

func TestPackOfWhatMayNotBe(t *testing.T) {
	for _, i := range wrongInsts() {
		checkPack(t, i, 0, api.ErrArg)
	}
}

// Every number that has no more bits than an instruction, and many beyond both ends, is read if it is Pack of one alone.
func TestReadOfEachNumber(t *testing.T) {
	packed := map[int]api.Inst{}
	many := 0
	eachInst(func(_, _ string, i api.Inst) {
		packed[packOf(i)] = i
		many++
	})
	if len(packed) != many {
		t.Fatalf("%d numbers of %d instructions", len(packed), many)
	}
	for n := -100000; n < beyond+100000; n++ {
		want, ok := packed[n]
		wantE := api.ErrForm
		if ok {
			wantE = api.OK
		}
		if i, e := Read(n); i != want || e != wantE {
			t.Fatalf("Read(%d) = %+v, %d, want %+v, %d", n, i, e, want, wantE)
		}
	}
}

func TestReadOfWhatIsPackOfNone(t *testing.T) {
	for _, n := range []int{
		0, 5, 23, 31, 32, // C is below what it may be, or there is no such Op
		1 + 256, 8 + 32, 8 + 256, // a set with B, a jump with A, with B
		4194304 + 23, 4194304 + 24, 4194304 + 31, // no such Op
		4194304 + 32, 4194304 + 256, 4194304 + 2048, 4194304 - 2048, // a halt with A, with B, with C
		4194304 + 20 + 256, 4194304 + 18 + 2048, 4194304 + 21 + 32, 4194304 + 21 + 256, 4194304 + 22 + 2048,
		4194304 + 3 + 8*2048, 4194304 + 3 - 2048, 4194304 + 14 + 128*2048, 4194304 + 14 - 2048,
		4194304 + 17 + 6*2048, 4194304 + 17 - 2048, 4194304 + 21 + 256*2048, 4194304 + 21 - 2048,
		-1, -4194304, beyond, beyond + 1, beyond + 10, beyond + 4194304, -beyond, -beyond + 4194304, -2048 + 8, -2048 + 10,
		math.MaxInt, math.MaxInt - 1, math.MinInt, math.MinInt + 1, math.MinInt + 8, math.MinInt + 10, math.MinInt + 4194304,
		api.MaxNumber, api.MinNumber, 1 << 31, 1 << 62, -1 << 62,
	} {
		checkRead(t, n, api.Inst{}, api.ErrForm)
	}
}

// Numbers whose lower bits are Pack of one, with any bit above them.
func TestReadOfNumbersWithOneBitMore(t *testing.T) {
	for _, i := range []api.Inst{{}, {Op: api.Set, A: 1, C: -5}, {Op: api.Jump, C: -2048}, {Op: api.Load, A: 7, B: 7, C: 2047}, {Op: api.Clear, C: 255}, {Op: api.Tell, A: 7}} {
		for bit := 23; bit < 63; bit++ {
			checkRead(t, packOf(i)+1<<bit, api.Inst{}, api.ErrForm)
			checkRead(t, packOf(i)-1<<bit, api.Inst{}, api.ErrForm)
		}
		checkRead(t, math.MinInt+packOf(i), api.Inst{}, api.ErrForm)
	}
}

// What is read of a number is packed as that number.
func TestWhatIsReadIsPackedSo(t *testing.T) {
	for n := 0; n < beyond; n++ {
		i, e := Read(n)
		if e != api.OK {
			continue
		}
		if again, e := Pack(i); again != n || e != api.OK {
			t.Fatalf("Pack(Read(%d)) = %d, %d", n, again, e)
		}
	}
}
