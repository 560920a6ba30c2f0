package cell

import (
	"strings"
	"testing"

	"custodian/api"
)

func checkRead(t *testing.T, s string, want api.Val, wantE api.Errno) {
	t.Helper()
	if v, e := Read(s); v != want || e != wantE {
		t.Errorf("Read(%q) = %+v, %d, want %+v, %d", s, v, e, want, wantE)
	}
}

func checkRefused(t *testing.T, s string, want api.Errno) {
	t.Helper()
	checkRead(t, s, api.Val{}, want)
}

// texts has some that are packed values.
func texts() []string {
	var all []string
	for _, n := range numbers {
		all = append(all, packed(aNumber(n)))
	}
	for _, k := range goodKeys {
		all = append(all, packed(aKey(k)))
	}
	return all
}

func TestRead(t *testing.T) {
	for _, c := range []struct {
		s    string
		want api.Val
	}{
		{"\x00\x00\x00\x00\x00\x00\x00\x00\x00\x00", aNumber(-1 << 31)},
		{"\x00\x80\x00\x00\x00\x00\x00\x00\x00\x80", aNumber(0)},
		{"\x00\x7f\xff\xff\xff\x00\x00\x00\x00\x7c", aNumber(-1)},
		{"\x00\xff\xff\xff\xff\x00\x00\x00\x00\xfc", aNumber(1<<31 - 1)},
		{"\x00\x92\x34\x56\x78\x00\x00\x00\x00\x94", aNumber(0x12345678)},
		{"\x01\x00\x00\x00\x00\x00\x00\x00\x00\x01", aKey(api.Key{})},
		{"\x01\x03\x09\x01\x2c\x00\x64\x01\x01\xa0", aKey(api.Key{Perm: 3, Base: 300, Len: 100, At: 257, Seal: 9})},
		{"\x01\x7f\x3f\x01\x90\x00\x00\x01\x90\xe1", aKey(api.Key{Perm: 127, Base: 400, At: 400, Seal: 63})},
		{"\x01\x7f\x3f\x00\xc8\x00\xc8\x00\xff\x4e", aKey(api.Key{Perm: 127, Base: 200, Len: 200, At: 255, Seal: 63})},
	} {
		checkRead(t, c.s, c.want, api.OK)
	}
}

func TestReadOfFewerBytes(t *testing.T) {
	for _, s := range append(texts(), strings.Repeat("\xff", 10), strings.Repeat("\x02", 10)) {
		for n := range 10 {
			checkRefused(t, s[:n], api.ErrShort)
		}
	}
	// Nor is it enough that the last byte of those that are there is the sum.
	for n := range 10 {
		checkRefused(t, strings.Repeat("\x00", n), api.ErrShort)
	}
	for n := range 8 {
		checkRefused(t, withSum("\x01"+strings.Repeat("\x00", n)), api.ErrShort)
	}
}

func TestReadOfMoreBytes(t *testing.T) {
	for _, s := range texts() {
		for _, more := range []string{"\x00", "\x01", "\xff", s, s[:1], s[9:], strings.Repeat("\x00", 1000)} {
			checkRefused(t, s+more, api.ErrForm)
			checkRefused(t, more+s, api.ErrForm)
			// That there are too many is told ahead of a sum that isn't.
			checkRefused(t, s[:9]+"\x55"+more, api.ErrForm)
		}
		checkRefused(t, withSum(s), api.ErrForm)
		checkRefused(t, withSum(s[:9]+"\x00"), api.ErrForm)
	}
	for n := 11; n <= 300; n++ {
		checkRefused(t, strings.Repeat("\x00", n), api.ErrForm)
		checkRefused(t, strings.Repeat("\xff", n), api.ErrForm)
	}
}

// checkSums tries each last byte behind s: by the right one it is refused as want says, by the others as the sum is.
func checkSums(t *testing.T, s string, want api.Errno) {
	t.Helper()
	right := withSum(s)
	for b := range 256 {
		text := s + string([]byte{byte(b)})
		if text != right {
			checkRefused(t, text, api.ErrSum)
		} else if want != api.OK {
			checkRefused(t, text, want)
		}
	}
}

func TestReadOfOtherSums(t *testing.T) {
	for _, s := range texts() {
		checkSums(t, s[:9], api.OK)
	}
	// The sum is told ahead of all else that is wrong.
	for _, s := range []string{
		"\x02\x00\x00\x00\x00\x00\x00\x00\x00", "\xff\xff\xff\xff\xff\xff\xff\xff\xff", "\x00\x80\x00\x00\x00\x00\x00\x00\x01",
		"\x01\x80\x00\x00\x00\x00\x00\x00\x00", "\x01\x00\x40\x00\x00\x00\x00\x00\x00", "\x01\x00\x00\x01\x91\x00\x00\x00\x00",
	} {
		checkSums(t, s, api.ErrForm)
	}
}

// The sum has each byte: one that is changed does not pass.
func TestReadOfOneByteChanged(t *testing.T) {
	for _, s := range texts() {
		for i := range s {
			for by := 1; by < 256; by++ {
				changed := []byte(s)
				changed[i] += byte(by)
				checkRefused(t, string(changed), api.ErrSum)
			}
		}
	}
}

func TestReadOfOtherFirstBytes(t *testing.T) {
	for _, s := range texts() {
		for first := 2; first < 256; first++ {
			checkRefused(t, withSum(string([]byte{byte(first)})+s[1:9]), api.ErrForm)
		}
	}
	checkRefused(t, "\x02\x00\x00\x00\x00\x00\x00\x00\x00\x02", api.ErrForm)
	checkRefused(t, "\x80\x00\x00\x00\x00\x00\x00\x00\x00\x80", api.ErrForm)
	checkRefused(t, strings.Repeat("\xff", 9)+"\xf7", api.ErrForm)
}

func TestReadOfNumbersWithMoreBehind(t *testing.T) {
	for _, n := range numbers {
		s := packed(aNumber(n))
		for i := 5; i < 9; i++ {
			for b := 1; b < 256; b++ {
				changed := []byte(s[:9])
				changed[i] = byte(b)
				checkRefused(t, withSum(string(changed)), api.ErrForm)
			}
		}
		// Nor where those bytes together make up for nothing.
		checkRefused(t, withSum(s[:5]+"\x80\x80\x00\x00"), api.ErrForm)
		checkRefused(t, withSum(s[:5]+"\x01\xff\xff\x01"), api.ErrForm)
	}
}

// keyText answers a key as bytes, whether it may be or not.
func keyText(perm, seal, base, n, at int) string {
	return withSum(string([]byte{
		1, byte(perm), byte(seal), byte(base / 256), byte(base % 256), byte(n / 256), byte(n % 256), byte(at / 256), byte(at % 256),
	}))
}

// checkKeyText says what Read is to answer of a key's bytes by the bounds that a key has.
func checkKeyText(t *testing.T, perm, seal, base, n, at int) {
	t.Helper()
	s := keyText(perm, seal, base, n, at)
	if perm > 127 || seal > 63 || base+n > 400 || at > 400 {
		checkRefused(t, s, api.ErrForm)
		return
	}
	checkRead(t, s, aKey(api.Key{Perm: perm, Base: base, Len: n, At: at, Seal: seal}), api.OK)
}

func TestReadOfKeys(t *testing.T) {
	for perm := range 256 {
		for seal := range 256 {
			checkKeyText(t, perm, seal, 300, 100, 257)
		}
	}
	for n := range 1 << 16 {
		checkKeyText(t, 5, 0, n, 0, 15)
		checkKeyText(t, 5, 0, 0, n, 15)
		checkKeyText(t, 5, 0, n, 20, 15)
		checkKeyText(t, 5, 0, 10, n, 15)
		checkKeyText(t, 5, 0, 10, 20, n)
	}
	for base := range 403 {
		for n := range 403 {
			checkKeyText(t, 127, 63, base, n, 400)
		}
	}
	checkKeyText(t, 5, 0, 1<<16-1, 1, 15)
	checkKeyText(t, 5, 0, 1<<16-1, 1<<16-1, 15)
	checkKeyText(t, 255, 255, 1<<16-1, 1<<16-1, 1<<16-1)
}

// No number's bytes are a key's, and the other way round: the first byte alone says which.
func TestReadTellsKeysFromNumbers(t *testing.T) {
	checkRead(t, "\x00\x00\x00\x00\x05\x00\x00\x00\x00\x05", aNumber(-1<<31+5), api.OK)
	checkRead(t, "\x01\x00\x00\x00\x05\x00\x00\x00\x00\x06", aKey(api.Key{Base: 5}), api.OK)
}

// Whatever is read is packed as the text that it was read of, and whatever is not is Pack of no value.
func TestReadOfAnyBytes(t *testing.T) {
	state := uint32(1)
	next := func() byte {
		state = state*1664525 + 1013904223
		return byte(state >> 24)
	}
	read := 0
	for range 300000 {
		b := make([]byte, 9)
		// Small bytes are more, so that keys that may be are among them.
		for i := range b {
			b[i] = next() >> (next() % 9)
		}
		b[0] %= 3
		s := withSum(string(b))
		v, e := Read(s)
		if e != api.OK {
			if e != api.ErrForm || v != (api.Val{}) {
				t.Errorf("Read(%q) = %+v, %d", s, v, e)
			}
			continue
		}
		read++
		checkPack(t, v, s, api.OK)
	}
	if read < 100 {
		t.Errorf("%d texts were read, which are too few to say anything", read)
	}
}
