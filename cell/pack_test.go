package cell

import (
	"encoding/binary"
	"testing"

	"custodian/api"
)

func checkPack(t *testing.T, v api.Val, want string, wantE api.Errno) {
	t.Helper()
	if s, e := Pack(v); s != want || e != wantE {
		t.Errorf("Pack(%+v) = %q, %d, want %q, %d", v, s, e, want, wantE)
	}
}

func TestPackOfNumbers(t *testing.T) {
	for _, c := range []struct {
		n    int
		want string
	}{
		{-1 << 31, "\x00\x00\x00\x00\x00\x00\x00\x00\x00\x00"},
		{-1<<31 + 1, "\x00\x00\x00\x00\x01\x00\x00\x00\x00\x01"},
		{-1<<31 + 256, "\x00\x00\x00\x01\x00\x00\x00\x00\x00\x01"},
		{-1<<31 + 1<<16, "\x00\x00\x01\x00\x00\x00\x00\x00\x00\x01"},
		{-1<<31 + 1<<24, "\x00\x01\x00\x00\x00\x00\x00\x00\x00\x01"},
		{-1<<31 + 0x01020304, "\x00\x01\x02\x03\x04\x00\x00\x00\x00\x0a"},
		{-256, "\x00\x7f\xff\xff\x00\x00\x00\x00\x00\x7d"},
		{-1, "\x00\x7f\xff\xff\xff\x00\x00\x00\x00\x7c"},
		{0, "\x00\x80\x00\x00\x00\x00\x00\x00\x00\x80"},
		{1, "\x00\x80\x00\x00\x01\x00\x00\x00\x00\x81"},
		{77, "\x00\x80\x00\x00\x4d\x00\x00\x00\x00\xcd"},
		{127, "\x00\x80\x00\x00\x7f\x00\x00\x00\x00\xff"},
		{128, "\x00\x80\x00\x00\x80\x00\x00\x00\x00\x00"},
		{129, "\x00\x80\x00\x00\x81\x00\x00\x00\x00\x01"},
		{0x12345678, "\x00\x92\x34\x56\x78\x00\x00\x00\x00\x94"},
		{1<<31 - 1, "\x00\xff\xff\xff\xff\x00\x00\x00\x00\xfc"},
	} {
		checkPack(t, aNumber(c.n), c.want, api.OK)
	}
}

func TestPackOfKeys(t *testing.T) {
	for _, c := range []struct {
		k    api.Key
		want string
	}{
		{api.Key{}, "\x01\x00\x00\x00\x00\x00\x00\x00\x00\x01"},
		{api.Key{Perm: 1}, "\x01\x01\x00\x00\x00\x00\x00\x00\x00\x02"},
		{api.Key{Perm: 127}, "\x01\x7f\x00\x00\x00\x00\x00\x00\x00\x80"},
		{api.Key{Seal: 1}, "\x01\x00\x01\x00\x00\x00\x00\x00\x00\x02"},
		{api.Key{Seal: 63}, "\x01\x00\x3f\x00\x00\x00\x00\x00\x00\x40"},
		{api.Key{Base: 2}, "\x01\x00\x00\x00\x02\x00\x00\x00\x00\x03"},
		{api.Key{Base: 255}, "\x01\x00\x00\x00\xff\x00\x00\x00\x00\x00"},
		{api.Key{Base: 256}, "\x01\x00\x00\x01\x00\x00\x00\x00\x00\x02"},
		{api.Key{Base: 400}, "\x01\x00\x00\x01\x90\x00\x00\x00\x00\x92"},
		{api.Key{Len: 2}, "\x01\x00\x00\x00\x00\x00\x02\x00\x00\x03"},
		{api.Key{Len: 400}, "\x01\x00\x00\x00\x00\x01\x90\x00\x00\x92"},
		{api.Key{At: 2}, "\x01\x00\x00\x00\x00\x00\x00\x00\x02\x03"},
		{api.Key{At: 400}, "\x01\x00\x00\x00\x00\x00\x00\x01\x90\x92"},
		{api.Key{Perm: 3, Base: 300, Len: 100, At: 257, Seal: 9}, "\x01\x03\x09\x01\x2c\x00\x64\x01\x01\xa0"},
		{api.Key{Perm: 127, Base: 400, At: 400, Seal: 63}, "\x01\x7f\x3f\x01\x90\x00\x00\x01\x90\xe1"},
		{api.Key{Perm: 127, Len: 400, At: 400, Seal: 63}, "\x01\x7f\x3f\x00\x00\x01\x90\x01\x90\xe1"},
		{api.Key{Perm: 127, Base: 200, Len: 200, At: 255, Seal: 63}, "\x01\x7f\x3f\x00\xc8\x00\xc8\x00\xff\x4e"},
	} {
		checkPack(t, aKey(c.k), c.want, api.OK)
	}
}

func TestPackOfWhatMayNotBe(t *testing.T) {
	for _, w := range append(wrongKeys(), wrongNumbers()...) {
		checkPack(t, w.v, "", w.e)
	}
}

// withSum answers s with its sum behind it.
func withSum(s string) string {
	n := 0
	for _, b := range []byte(s) {
		n += int(b)
	}
	return s + string([]byte{byte(n % 256)})
}

// packed answers a value that may be as bytes, by another way.
func packed(v api.Val) string {
	var b []byte
	if v.Is {
		b = append(b, 1, uint8(v.Key.Perm), uint8(v.Key.Seal))
		b = binary.BigEndian.AppendUint16(b, uint16(v.Key.Base))
		b = binary.BigEndian.AppendUint16(b, uint16(v.Key.Len))
		b = binary.BigEndian.AppendUint16(b, uint16(v.Key.At))
	} else {
		b = binary.BigEndian.AppendUint32([]byte{0}, uint32(v.N+1<<31))
		b = append(b, 0, 0, 0, 0)
	}
	return withSum(string(b))
}

func checkThereAndBack(t *testing.T, v api.Val) {
	t.Helper()
	s := packed(v)
	checkPack(t, v, s, api.OK)
	checkRead(t, s, v, api.OK)
}

func TestThereAndBackWithNumbers(t *testing.T) {
	for _, n := range numbers {
		checkThereAndBack(t, aNumber(n))
	}
	for n := -70000; n <= 70000; n++ {
		checkThereAndBack(t, aNumber(n))
	}
	for n := -1 << 31; n < 1<<31; n += 65537 {
		checkThereAndBack(t, aNumber(n))
	}
	for by := range 300 {
		checkThereAndBack(t, aNumber(-1<<31+by))
		checkThereAndBack(t, aNumber(1<<31-1-by))
	}
}

func TestThereAndBackWithKeys(t *testing.T) {
	for _, k := range goodKeys {
		checkThereAndBack(t, aKey(k))
	}
	for perm := range 128 {
		for seal := range 64 {
			checkThereAndBack(t, aKey(api.Key{Perm: perm, Base: 300, Len: 100, At: 257, Seal: seal}))
		}
	}
	for base := range 401 {
		for n := range 401 - base {
			checkThereAndBack(t, aKey(api.Key{Perm: 5, Base: base, Len: n, At: 7}))
		}
	}
	for at := range 401 {
		checkThereAndBack(t, aKey(api.Key{Perm: 5, Base: 10, Len: 20, At: at, Seal: 3}))
	}
}
