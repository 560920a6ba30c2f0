package keys

import (
	"math"
	"testing"

	"custodian/api"
)

// fields reaches each field of a key by its name.
var fields = map[string]func(k *api.Key) *int{
	"Perm": func(k *api.Key) *int { return &k.Perm },
	"Base": func(k *api.Key) *int { return &k.Base },
	"Len":  func(k *api.Key) *int { return &k.Len },
	"At":   func(k *api.Key) *int { return &k.At },
	"Seal": func(k *api.Key) *int { return &k.Seal },
}

// far has numbers that no field may have, among them such as are small ones where their upper bits are cut off.
var far = []int{
	math.MinInt, math.MinInt + 1, math.MinInt + 5, math.MinInt + 400, math.MaxInt, math.MaxInt - 1, math.MaxInt - 399, math.MaxInt - 400,
	1 << 62, -1 << 62, 1 << 32, 1<<32 + 5, -1<<32 + 5, 1 << 31, api.MaxNumber, api.MinNumber, 1<<16 + 5, -1, -2, -5, -127, -128, -400,
	401, 402, 1000, 1 << 9, 1<<16 - 1,
}

// plain is a key that may be, with some room at both ends of each field.
func plain() api.Key { return api.Key{Perm: 5, Base: 10, Len: 20, At: 15} }

func checkCheck(t *testing.T, k api.Key, want api.Errno) {
	t.Helper()
	if e := Check(k); e != want {
		t.Errorf("Check(%+v) = %d, want %d", k, e, want)
	}
}

func TestCheckOfKeysThatMayBe(t *testing.T) {
	for _, k := range []api.Key{
		{}, plain(),
		{Perm: 127}, {Perm: 126}, {Perm: 1}, {Perm: 64},
		{Base: 400}, {Base: 399}, {Base: 399, Len: 1}, {Base: 1, Len: 399}, {Base: 200, Len: 200}, {Len: 400}, {Len: 399}, {Len: 1},
		{At: 400}, {At: 399}, {At: 1}, {Base: 10, Len: 2, At: 9}, {Base: 10, Len: 2, At: 12}, {Base: 10, Len: 2, At: 400}, {Base: 400, At: 0},
		{Seal: 1}, {Seal: 62}, {Seal: 63},
		{Perm: 127, Len: 400, At: 400, Seal: 63}, {Perm: 127, Base: 400, At: 400, Seal: 63},
	} {
		checkCheck(t, k, api.OK)
	}
}

func TestCheckOfKeysThatMayNotBe(t *testing.T) {
	for _, k := range []api.Key{
		{Perm: -1}, {Perm: 128}, {Perm: 255}, {Perm: 129},
		{Base: -1}, {Base: -1, Len: 1}, {Base: -1, Len: 400}, {Base: -5, Len: 401}, {Base: 401}, {Base: 402}, {Base: 400, Len: 1}, {Base: 399, Len: 2},
		{Len: -1}, {Base: 1, Len: -1}, {Base: 400, Len: -1}, {Base: 401, Len: -1}, {Base: 405, Len: -5}, {Len: 401}, {Base: 1, Len: 400}, {Base: 200, Len: 201}, {Base: 201, Len: 200},
		{At: -1}, {At: 401}, {Base: 10, Len: 2, At: -1}, {Base: 399, Len: 1, At: 401},
		{Seal: -1}, {Seal: 64}, {Seal: 127}, {Seal: 400},
		{Base: math.MaxInt, Len: math.MaxInt}, {Base: math.MaxInt, Len: 1}, {Base: 1, Len: math.MaxInt}, {Base: math.MaxInt, Len: math.MinInt},
		{Base: math.MinInt, Len: math.MinInt}, {Base: math.MinInt, Len: math.MaxInt}, {Base: math.MinInt, Len: -1}, {Base: -1, Len: math.MinInt},
		{Base: math.MinInt}, {Len: math.MinInt}, {Base: 1 << 62, Len: 1 << 62}, {Base: 400, Len: math.MaxInt - 399}, {Base: 400, Len: math.MaxInt},
	} {
		checkCheck(t, k, api.ErrArg)
	}
}

// One field runs over both ends of what it may be while the others stay.
func TestCheckOfEachField(t *testing.T) {
	ends := map[string]struct{ low, high int }{
		"Perm": {0, 127},
		"Base": {0, 380}, // plain has 20 cells
		"Len":  {0, 390}, // from 10 on
		"At":   {0, 400},
		"Seal": {0, 63},
	}
	for name, field := range fields {
		for n := -600; n <= 1200; n++ {
			k := plain()
			*field(&k) = n
			want := api.ErrArg
			if n >= ends[name].low && n <= ends[name].high {
				want = api.OK
			}
			checkCheck(t, k, want)
		}
		for _, n := range far {
			k := plain()
			*field(&k) = n
			checkCheck(t, k, api.ErrArg)
		}
	}
}

func TestCheckOfBaseAndLenTogether(t *testing.T) {
	for base := -3; base <= 403; base++ {
		for n := -3; n <= 403; n++ {
			want := api.OK
			if base < 0 || n < 0 || base+n > 400 {
				want = api.ErrArg
			}
			checkCheck(t, api.Key{Base: base, Len: n}, want)
		}
	}
	for _, base := range far {
		for _, n := range far {
			checkCheck(t, api.Key{Base: base, Len: n}, api.ErrArg)
		}
	}
}

// wrongKeys has keys that Check refuses, each by one field alone, and the rest as in k.
func wrongKeys(k api.Key) []api.Key {
	var all []api.Key
	for _, field := range fields {
		for _, n := range far {
			wrong := k
			*field(&wrong) = n
			all = append(all, wrong)
		}
	}
	for _, perm := range []int{128, 255} {
		wrong := k
		wrong.Perm = perm
		all = append(all, wrong)
	}
	for _, seal := range []int{64, 400} {
		wrong := k
		wrong.Seal = seal
		all = append(all, wrong)
	}
	wrong := k
	wrong.Base, wrong.Len = 400, 1
	return append(all, wrong)
}

func TestWrongKeysAreWrong(t *testing.T) {
	for _, k := range wrongKeys(plain()) {
		checkCheck(t, k, api.ErrArg)
	}
}
