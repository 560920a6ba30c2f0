package prog

import (
	"fmt"
	"math"
	"slices"
	"strconv"
	"strings"
	"testing"

	"custodian/api"
	"custodian/inst"
)

func checkText(t *testing.T, code []int, want string, wantE api.Errno) {
	t.Helper()
	if s, e := Text(code); s != want || e != wantE {
		t.Errorf("Text(%.300s) = %.300q, %d, want %.300q, %d", fmt.Sprint(code), s, e, want, wantE)
	}
}

// checkAgain checks that what Text tells is read as just these cells.
func checkAgain(t *testing.T, code []int) {
	t.Helper()
	s, e := Text(code)
	if e != api.OK {
		t.Errorf("Text(%.300s): error %d", fmt.Sprint(code), e)
	}
	checkRead(t, s, code)
}

func TestTextWrittenOut(t *testing.T) {
	checkText(t, nil, "", api.OK)
	checkText(t, []int{}, "", api.OK)
	checkText(t, []int{4194304}, "halt", api.OK)
	checkText(t, []int{4194304, 4194304}, "halt\nhalt", api.OK)
	checkText(t, []int{-7}, "word -7", api.OK)
	checkText(t, []int{packOf(1, 1, 0, 3), packOf(9, 1, 0, -1), packOf(8, 0, 0, 2), -7}, "set r1 3\nif r1 -1\njump 2\nword -7", api.OK)
	checkText(t, []int{
		packOf(2, 1, 2, 0), packOf(3, 1, 2, 3), packOf(10, 1, 2, -2048), packOf(11, 7, 7, 2047), packOf(14, 1, 2, 127), packOf(17, 1, 2, 5), packOf(18, 5, 6, 0), packOf(19, 0, 0, 0), packOf(20, 4, 0, 0), packOf(21, 0, 0, 255), packOf(22, 6, 0, 0),
	}, lines("copy r1 r2", "add r1 r2 r3", "load r1 r2 -2048", "store r7 r7 2047", "drop r1 r2 127", "ask r1 r2 5", "call r5 r6", "back", "here r4", "clear 255", "tell r6"), api.OK)
	checkText(t, []int{0, 1, 2, 8, 9, 23, 31}, lines("word 0", "set r0 -2048", "word 2", "jump -2048", "if r0 -2048", "word 23", "word 31"), api.OK) // the least C is packed as 0
}

func TestTextOfWhatIsNoInstruction(t *testing.T) {
	for _, n := range []int{
		0, 2, 5, 23, 24, 31, 32, 40, 1 << 22 >> 1, 4194304 + 23, 4194304 + 31, 4194304 + 32, 4194304 + 256, 4194304 + 2048, 4194304 - 2048, packOf(8, 1, 0, 0), packOf(9, 0, 1, 0), packOf(3, 0, 0, 8), packOf(3, 0, 0, -1), packOf(14, 0, 0, 128),
		packOf(17, 0, 0, 6), packOf(21, 0, 0, 256), packOf(8, 0, 0, 2048), packOf(8, 0, 0, -2049), 8388608, 8388616, 1 << 24, 1<<31 - 1, 1<<31 - 2, -1, -2, -8, -4194304, -1 << 31, -1<<31 + 1, -1<<31 + 8,
	} {
		checkText(t, []int{n}, "word "+strconv.Itoa(n), api.OK)
		checkText(t, []int{n, n}, "word "+strconv.Itoa(n)+"\nword "+strconv.Itoa(n), api.OK)
		checkAgain(t, []int{n, 4194304, n})
	}
}

func TestTextOfEachInstruction(t *testing.T) {
	for _, cells := range programs(eachNumber()) {
		var all []string
		for _, n := range cells {
			i, _ := inst.Read(n)
			s, _ := inst.Text(i)
			all = append(all, s)
		}
		checkText(t, cells, lines(all...), api.OK)
		checkAgain(t, cells)
	}
}

func TestTextOfNumbersAmongInstructions(t *testing.T) {
	var some []int
	for n := -5000; n < 2048*4096+5000; n += 37 {
		some = append(some, n)
	}
	for _, cells := range programs(some) {
		var all []string
		for _, n := range cells {
			line := "word " + strconv.Itoa(n)
			if i, e := inst.Read(n); e == api.OK {
				line, _ = inst.Text(i)
			}
			all = append(all, line)
		}
		checkText(t, cells, lines(all...), api.OK)
		checkAgain(t, cells)
	}
}

func TestTextOfManyCells(t *testing.T) {
	for _, n := range []int{4194304, 5, -1 << 31} {
		line, _ := Text([]int{n})
		for _, count := range []int{1, 2, 149, 150} {
			s, e := Text(repeated(n, count))
			if s != repeat(line, count) || e != api.OK || strings.HasSuffix(s, "\n") || strings.Count(s, "\n") != count-1 {
				t.Errorf("%d times %d: %q, %d", count, n, s, e)
			}
			checkAgain(t, repeated(n, count))
		}
		for _, count := range []int{151, 152, 256, 300, 406, 1000000} {
			checkText(t, repeated(n, count), "", api.ErrLarge)
		}
	}
	checkText(t, repeated(1<<31, 151), "", api.ErrLarge) // told ahead of ErrArg
	checkText(t, append([]int{1 << 31}, repeated(5, 150)...), "", api.ErrLarge)
	checkText(t, append(repeated(5, 149), 1<<31), "", api.ErrArg)
}

func TestTextOfWhatIsNoNumber(t *testing.T) {
	for _, n := range []int{
		1 << 31, 1<<31 + 1, -1<<31 - 1, -1<<31 - 2, 1 << 32, 1<<32 + 5, -1 << 32, -1<<32 + 5, 1<<32 + 4194304, -1<<32 + 4194304, 1 << 33, 1 << 40, 1 << 62, -1 << 62, math.MaxInt, math.MaxInt - 1, math.MinInt, math.MinInt + 1, math.MinInt + 4194304,
	} {
		for _, code := range [][]int{{n}, {5, n}, {n, 5}, {4194304, n, 4194304}, {n, n}, {1<<31 - 1, -1 << 31, n}} {
			checkText(t, code, "", api.ErrArg)
		}
	}
	checkText(t, []int{1<<31 - 1, -1 << 31}, "word 2147483647\nword -2147483648", api.OK)
}

// TestTextLeavesTheCode: neither the cells nor the room behind them are changed.
func TestTextLeavesTheCode(t *testing.T) {
	room := []int{4194304, 5, packOf(8, 0, 0, -1), 77, 1 << 31}
	was := slices.Clone(room)
	for count := range len(room) + 1 {
		Text(room[:count])
		if !slices.Equal(room, was) {
			t.Fatalf("of %d cells: %v, was %v", count, room, was)
		}
	}
}
