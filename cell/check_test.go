package cell

import (
	"math"
	"testing"

	"custodian/api"
	"custodian/keys"
)

// fields reaches each field of a key by its name.
var fields = map[string]func(k *api.Key) *int{
	"Perm": func(k *api.Key) *int { return &k.Perm },
	"Base": func(k *api.Key) *int { return &k.Base },
	"Len":  func(k *api.Key) *int { return &k.Len },
	"At":   func(k *api.Key) *int { return &k.At },
	"Seal": func(k *api.Key) *int { return &k.Seal },
}

// numbers has numbers that may be, the least and the greatest among them, and such as have one byte that is not 0.
var numbers = []int{
	-1 << 31, -1<<31 + 1, -1<<31 + 255, -1<<31 + 256, -1<<31 + 1<<16, -1<<31 + 1<<24, -1 << 30, -1 << 16, -401, -256, -255, -128, -2, -1,
	0, 1, 2, 77, 127, 128, 255, 256, 257, 400, 1<<16 - 1, 1 << 16, 1 << 24, 1 << 30, 0x12345678, -0x12345678, 1<<31 - 2, 1<<31 - 1,
}

// noNumbers has numbers beyond both ends, among them such as may be where their upper bits are cut off.
var noNumbers = []int{
	1 << 31, 1<<31 + 1, -1<<31 - 1, -1<<31 - 2, 1<<32 - 1, 1 << 32, 1<<32 + 5, -1 << 32, -1<<32 + 5, -1<<32 - 1, 1 << 40, -1 << 40,
	1 << 62, -1 << 62, math.MaxInt, math.MaxInt - 1, math.MinInt, math.MinInt + 1, math.MinInt + 5, math.MaxInt - 1<<31, math.MinInt + 1<<31,
}

// goodKeys has keys that may be, the least and the greatest of each field among them.
var goodKeys = []api.Key{
	{}, {Perm: 5, Base: 10, Len: 20, At: 15}, {Perm: 3, Base: 300, Len: 100, At: 257, Seal: 9},
	{Perm: 1}, {Perm: 127}, {Base: 1}, {Base: 255}, {Base: 256}, {Base: 400}, {Len: 1}, {Len: 255}, {Len: 256}, {Len: 400},
	{At: 1}, {At: 255}, {At: 256}, {At: 400}, {Seal: 1}, {Seal: 63},
	{Perm: 127, Base: 400, At: 400, Seal: 63}, {Perm: 127, Len: 400, At: 400, Seal: 63}, {Perm: 127, Base: 399, Len: 1, At: 0, Seal: 63},
}

// badKeys has keys that keys.Check refuses, each of its reasons among them.
var badKeys = []api.Key{
	{Perm: -1}, {Perm: 128}, {Perm: 256}, {Perm: 257}, {Perm: math.MinInt}, {Perm: math.MaxInt},
	{Base: -1}, {Base: 401}, {Base: 400, Len: 1}, {Base: 1, Len: 400}, {Base: 1 << 16}, {Base: 1<<16 + 5}, {Base: math.MinInt}, {Base: math.MaxInt},
	{Len: -1}, {Len: 401}, {Base: 5, Len: -1}, {Len: 1 << 16}, {Len: 1<<16 + 5}, {Len: math.MinInt}, {Len: math.MaxInt},
	{Base: math.MaxInt, Len: math.MaxInt}, {Base: math.MaxInt, Len: math.MinInt},
	{At: -1}, {At: 401}, {At: 1 << 16}, {At: 1<<16 + 5}, {At: math.MinInt}, {At: math.MaxInt},
	{Seal: -1}, {Seal: 64}, {Seal: 256}, {Seal: 257}, {Seal: math.MinInt}, {Seal: math.MaxInt},
	{Perm: -1, Base: -1, Len: -1, At: -1, Seal: -1}, {Perm: 5, Base: 10, Len: 20, At: 15, Seal: 64},
	{Perm: 5, Base: -5}, {Len: 7, At: -7}, {At: -1, Seal: 1}, {Perm: math.MinInt, Seal: math.MinInt}, // whose fields together are 0
}

// notNought has numbers of any size that are not 0.
var notNought = append([]int{1, -1, 5, 255, 256, 400, 1 << 16, api.MaxNumber, api.MinNumber}, noNumbers...)

func aNumber(n int) api.Val              { return api.Val{N: n} }
func aKey(k api.Key) api.Val             { return api.Val{Is: true, Key: k} }
func aKeyWithN(k api.Key, n int) api.Val { return api.Val{Is: true, N: n, Key: k} }

// wrong is a value that may not be, and why.
type wrong struct {
	v api.Val
	e api.Errno
}

// wrongKeys has values that are keys and may not be.
func wrongKeys() []wrong {
	var all []wrong
	for _, k := range badKeys {
		all = append(all, wrong{aKey(k), api.ErrArg})
		// What keys.Check says of it is told ahead of N.
		for _, n := range notNought {
			all = append(all, wrong{aKeyWithN(k, n), api.ErrArg})
		}
	}
	for _, k := range goodKeys {
		for _, n := range notNought {
			all = append(all, wrong{aKeyWithN(k, n), api.ErrForm})
		}
	}
	return all
}

// wrongNumbers has values that are numbers and may not be.
func wrongNumbers() []wrong {
	var all []wrong
	for _, n := range noNumbers {
		all = append(all, wrong{aNumber(n), api.ErrArg})
		// That N is no number is told ahead of Key, whether that is one that may be or not.
		for _, k := range append(goodKeys[1:len(goodKeys):len(goodKeys)], badKeys...) {
			all = append(all, wrong{api.Val{N: n, Key: k}, api.ErrArg})
		}
	}
	for _, n := range numbers {
		for _, field := range fields {
			for _, f := range notNought {
				v := aNumber(n)
				*field(&v.Key) = f
				all = append(all, wrong{v, api.ErrForm})
			}
		}
		for _, k := range append(goodKeys[1:len(goodKeys):len(goodKeys)], badKeys...) {
			all = append(all, wrong{api.Val{N: n, Key: k}, api.ErrForm})
		}
	}
	return all
}

func checkCheck(t *testing.T, v api.Val, want api.Errno) {
	t.Helper()
	if e := Check(v); e != want {
		t.Errorf("Check(%+v) = %d, want %d", v, e, want)
	}
}

func TestCheckOfWhatMayBe(t *testing.T) {
	for _, n := range numbers {
		checkCheck(t, aNumber(n), api.OK)
	}
	for _, k := range goodKeys {
		checkCheck(t, aKey(k), api.OK)
	}
}

func TestCheckOfWhatMayNotBe(t *testing.T) {
	for _, w := range append(wrongKeys(), wrongNumbers()...) {
		checkCheck(t, w.v, w.e)
	}
}

func TestCheckAtBothEndsOfNumbers(t *testing.T) {
	for by := -1000; by <= 1000; by++ {
		low, high := api.OK, api.OK
		if by < 0 {
			low = api.ErrArg
		}
		if by > 0 {
			high = api.ErrArg
		}
		checkCheck(t, aNumber(-1<<31+by), low)
		checkCheck(t, aNumber(1<<31-1+by), high)
	}
}

// Of a key it is what keys.Check answers, whatever one field has while the others stay.
func TestCheckOfKeysIsThatOfKeys(t *testing.T) {
	for _, field := range fields {
		for n := -600; n <= 1200; n++ {
			k := api.Key{Perm: 5, Base: 10, Len: 20, At: 15}
			*field(&k) = n
			checkCheck(t, aKey(k), keys.Check(k))
			want := keys.Check(k)
			if want == api.OK {
				want = api.ErrForm
			}
			checkCheck(t, aKeyWithN(k, 1), want)
		}
	}
}

// steps are changes of one thing each.
func steps() []func(v *api.Val) {
	all := []func(v *api.Val){func(v *api.Val) { v.Is = !v.Is }}
	for _, by := range []int{1, -1, 256, 1 << 16, 1 << 31, 1 << 32, 1 << 62, math.MinInt} {
		all = append(all, func(v *api.Val) { v.N += by })
		for _, field := range fields {
			all = append(all, func(v *api.Val) { *field(&v.Key) += by })
		}
	}
	return all
}

func checkSame(t *testing.T, a, b api.Val, want bool) {
	t.Helper()
	if Same(a, b) != want || Same(b, a) != want {
		t.Errorf("Same(%+v, %+v) = %t, %t the other way round, want %t", a, b, Same(a, b), Same(b, a), want)
	}
}

func TestSame(t *testing.T) {
	var all []api.Val
	for _, n := range numbers {
		all = append(all, aNumber(n))
	}
	for _, k := range goodKeys {
		all = append(all, aKey(k))
	}
	for _, w := range append(wrongKeys(), wrongNumbers()...) {
		all = append(all, w.v)
	}
	for _, v := range all {
		checkSame(t, v, v, true)
		for _, step := range steps() {
			u := v
			step(&u)
			checkSame(t, u, v, false)
		}
	}
}

// Things that differ don't make up for each other.
func TestSameWithFieldsChanged(t *testing.T) {
	v := aKeyWithN(api.Key{Perm: 1, Base: 2, Len: 3, At: 4, Seal: 5}, 6)
	for _, u := range []api.Val{
		aKeyWithN(api.Key{Perm: 2, Base: 1, Len: 3, At: 4, Seal: 5}, 6),
		aKeyWithN(api.Key{Perm: 1, Base: 3, Len: 2, At: 4, Seal: 5}, 6),
		aKeyWithN(api.Key{Perm: 1, Base: 2, Len: 4, At: 3, Seal: 5}, 6),
		aKeyWithN(api.Key{Perm: 1, Base: 2, Len: 3, At: 5, Seal: 4}, 6),
		aKeyWithN(api.Key{Perm: 1, Base: 2, Len: 3, At: 4, Seal: 6}, 5),
		{}, {Is: true}, {N: 6}, aKey(v.Key), aNumber(1),
	} {
		checkSame(t, u, v, false)
	}
	checkSame(t, api.Val{}, api.Val{}, true)
	checkSame(t, api.Val{}, api.Val{Is: true}, false)
}
