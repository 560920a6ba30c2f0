package keys

import (
	"testing"

	"custodian/api"
)

// pairCall is Seal or Open.
type pairCall struct {
	name string
	make func(k, by api.Key) (api.Key, api.Errno)
	perm int // what by must allow
}

var (
	sealCall = pairCall{"Seal", Seal, api.PSeal}
	openCall = pairCall{"Open", Open, api.POpen}
)

func checkPair(t *testing.T, c pairCall, k, by, want api.Key, wantE api.Errno) {
	t.Helper()
	if got, e := c.make(k, by); got != want || e != wantE {
		t.Errorf("%s(%+v, %+v) = %+v, %d, want %+v, %d", c.name, k, by, got, e, want, wantE)
	}
}

func checkRefused(t *testing.T, c pairCall, k, by api.Key, wantE api.Errno) {
	t.Helper()
	checkPair(t, c, k, by, api.Key{}, wantE)
}

// seals answers a key by which the seal at is used, for all that may be done with it.
func seals(at int) api.Key { return api.Key{Perm: api.PSeal + api.POpen, Len: 400, At: at} }

func sealed(seal int) api.Key {
	k := plain()
	k.Seal = seal
	return k
}

// fit answers a k that c takes, with the seal 7.
func fit(c pairCall) api.Key {
	if c.name == "Open" {
		return sealed(7)
	}
	return plain()
}

// made answers what c makes of it.
func made(c pairCall) api.Key {
	if c.name == "Open" {
		return plain()
	}
	return sealed(7)
}

// unfit answers one that c does not take: what it made, it does not take again.
func unfit(c pairCall) api.Key { return made(c) }

func TestSealByEachPlace(t *testing.T) {
	for at := 0; at <= 399; at++ {
		if at >= 1 && at <= 63 {
			checkPair(t, sealCall, plain(), seals(at), sealed(at), api.OK)
		} else {
			checkRefused(t, sealCall, plain(), seals(at), api.ErrRange)
		}
	}
	checkRefused(t, sealCall, plain(), seals(400), api.ErrRange)
}

func TestOpenByEachPlace(t *testing.T) {
	for seal := 1; seal <= 63; seal++ {
		for at := 0; at <= 399; at++ {
			if at == seal {
				checkPair(t, openCall, sealed(seal), seals(at), plain(), api.OK)
			} else {
				checkRefused(t, openCall, sealed(seal), seals(at), api.ErrSealed)
			}
		}
		checkRefused(t, openCall, sealed(seal), seals(400), api.ErrRange)
	}
}

// by is At the ends of its cells and beside them.
func TestPairByCells(t *testing.T) {
	for _, c := range []pairCall{sealCall, openCall} {
		for _, b := range []struct{ base, n int }{{7, 1}, {0, 8}, {7, 393}, {5, 3}, {6, 3}, {0, 400}} {
			checkPair(t, c, fit(c), api.Key{Perm: c.perm, Base: b.base, Len: b.n, At: 7}, made(c), api.OK)
		}
		for _, b := range []struct{ base, n int }{{7, 0}, {0, 7}, {8, 1}, {8, 392}, {6, 1}, {0, 0}, {400, 0}, {5, 2}} {
			checkRefused(t, c, fit(c), api.Key{Perm: c.perm, Base: b.base, Len: b.n, At: 7}, api.ErrRange)
		}
	}
	// 0 is a cell as others are, but no seal; 63 is the last one that is
	checkRefused(t, sealCall, plain(), api.Key{Perm: api.PSeal, Len: 1}, api.ErrRange)
	checkRefused(t, openCall, sealed(7), api.Key{Perm: api.POpen, Len: 1}, api.ErrSealed)
	checkRefused(t, openCall, sealed(7), api.Key{Perm: api.POpen}, api.ErrRange)
	checkPair(t, sealCall, plain(), api.Key{Perm: api.PSeal, Base: 63, Len: 1, At: 63}, sealed(63), api.OK)
	checkRefused(t, sealCall, plain(), api.Key{Perm: api.PSeal, Base: 64, Len: 1, At: 64}, api.ErrRange)
	checkRefused(t, openCall, sealed(63), api.Key{Perm: api.POpen, Base: 64, Len: 1, At: 64}, api.ErrSealed)
}

func TestPairByPermissions(t *testing.T) {
	for _, c := range []pairCall{sealCall, openCall} {
		for p := 0; p <= 127; p++ {
			by := seals(7)
			by.Perm = p
			if p/c.perm%2 == 1 {
				checkPair(t, c, fit(c), by, made(c), api.OK)
			} else {
				checkRefused(t, c, fit(c), by, api.ErrPerm)
			}
		}
	}
}

// What k allows, where it is and its cells do not count, and stay.
func TestPairKeepsTheRest(t *testing.T) {
	for _, k := range []api.Key{{}, {Perm: 127, Len: 400, At: 400}, {Base: 400, At: 0}, {Perm: 1, Base: 399, Len: 1, At: 7}, seals(7)} {
		shut := k
		shut.Seal = 7
		checkPair(t, sealCall, k, seals(7), shut, api.OK)
		checkPair(t, openCall, shut, seals(7), k, api.OK)
	}
}

func TestPairOfWrongKeys(t *testing.T) {
	for _, c := range []pairCall{sealCall, openCall} {
		shutBy := seals(7)
		shutBy.Seal = 3
		for _, k := range []api.Key{fit(c), unfit(c)} { // a wrong by is told ahead of a k that does not fit
			for _, wrong := range wrongKeys(k) {
				// a Seal or a field that is wrong may make k fit or not: it is ErrArg either way
				for _, by := range []api.Key{seals(7), {}, shutBy, {Perm: 127}, {Perm: 200}, {Seal: 64}, wrong} {
					checkRefused(t, c, wrong, by, api.ErrArg)
				}
			}
			for _, by := range []api.Key{seals(7), shutBy, {}} {
				for _, wrong := range wrongKeys(by) {
					checkRefused(t, c, k, wrong, api.ErrArg)
				}
			}
		}
	}
}

// Each error is told ahead of all that are told behind it.
func TestPairTellsErrorsInOrder(t *testing.T) {
	for _, c := range []pairCall{sealCall, openCall} {
		other := api.PSeal + api.POpen - c.perm
		nothing := api.Key{Perm: other, Base: 100, Len: 5, At: 99}
		shut := nothing
		shut.Seal = 7
		shutButFit := seals(7)
		shutButFit.Seal = 7
		outside := api.Key{Perm: c.perm, Base: 100, Len: 5, At: 99}

		// k does not fit: ErrSealed, whatever by is
		for _, by := range []api.Key{seals(7), nothing, shut, outside, {}} {
			checkRefused(t, c, unfit(c), by, api.ErrSealed)
		}
		// by is sealed, and does not allow it, and is outside
		checkRefused(t, c, fit(c), shutButFit, api.ErrSealed)
		checkRefused(t, c, fit(c), shut, api.ErrSealed)
		// by does not allow it, and is outside
		checkRefused(t, c, fit(c), nothing, api.ErrPerm)
		checkRefused(t, c, fit(c), api.Key{}, api.ErrPerm)
		checkRefused(t, c, fit(c), api.Key{Perm: other, Len: 400, At: 7}, api.ErrPerm)
		checkRefused(t, c, fit(c), api.Key{Perm: other, Len: 400, At: 0}, api.ErrPerm)
		// by is outside, At another seal or none
		checkRefused(t, c, fit(c), outside, api.ErrRange)
		checkRefused(t, c, fit(c), api.Key{Perm: c.perm, Base: 9, Len: 5, At: 8}, api.ErrRange)
	}
	// by is inside, but At another seal
	checkRefused(t, openCall, sealed(7), api.Key{Perm: api.POpen, Base: 8, Len: 5, At: 8}, api.ErrSealed)
}

// A key may be sealed and opened by itself as by any other one.
func TestPairWithItself(t *testing.T) {
	k := seals(7)
	shut := k
	shut.Seal = 7
	checkPair(t, sealCall, k, k, shut, api.OK)
	checkRefused(t, sealCall, shut, shut, api.ErrSealed)
	checkRefused(t, openCall, shut, shut, api.ErrSealed)
	checkRefused(t, openCall, k, k, api.ErrSealed)
}

// What is sealed is opened by its own seal alone, and sealed it is not more than it was.
func TestSealedAndOpened(t *testing.T) {
	for at := 1; at <= 63; at++ {
		shut, e := Seal(plain(), seals(at))
		if e != api.OK || Check(shut) != api.OK || !Under(shut, plain()) || Under(plain(), shut) {
			t.Errorf("Seal by %d: %+v, %d", at, shut, e)
		}
		for by := 1; by <= 63; by++ {
			open, e := Open(shut, seals(by))
			if by == at && (open != plain() || e != api.OK) || by != at && (open != api.Key{} || e != api.ErrSealed) {
				t.Errorf("Open of what %d sealed by %d: %+v, %d", at, by, open, e)
			}
		}
		for by := 1; by <= 63; by++ {
			checkRefused(t, sealCall, shut, seals(by), api.ErrSealed)
		}
	}
}
