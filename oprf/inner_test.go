package oprf

import (
	"testing"

	"opaline/api"
	"opaline/ristretto"
	"opaline/scalar"
)

// No input is known of which a hash is 0, or the identity: what becomes of such is looked at from inside.

// noughts is what counts lead to, if those below n lead to 0; asked tells how many were asked for, and whether in turn.
func noughts(n int, asked *int) func(string) (scalar.Scalar, api.Errno) {
	return func(count string) (scalar.Scalar, api.Errno) {
		if len(count) != 1 || int(count[0]) != *asked {
			return scalar.Scalar{}, api.ErrOrder
		}
		*asked++
		if *asked <= n {
			return scalar.Of(0), api.OK
		}
		return scalar.Of(uint64(*asked) + 1000), api.OK
	}
}

func TestFirstKey(t *testing.T) {
	for _, n := range []int{0, 1, 2, 128, 254, 255} {
		asked := 0
		key, e := firstKey(noughts(n, &asked))
		if e != api.OK || key != scalar.Of(uint64(n)+1001) || asked != n+1 {
			t.Errorf("behind %d noughts: %x, %v, %d asked", n, key.Bytes(), e, asked)
		}
	}
}

func TestFirstKeyNone(t *testing.T) {
	asked := 0
	if key, e := firstKey(noughts(256, &asked)); e != api.ErrZero || key != (scalar.Scalar{}) || asked != 256 {
		t.Errorf("all are 0: %x, %v, %d asked", key.Bytes(), e, asked)
	}
	key, e := firstKey(func(string) (scalar.Scalar, api.Errno) { return scalar.Of(1), api.ErrLong })
	if e != api.ErrLong || key != (scalar.Scalar{}) {
		t.Errorf("an error: %x, %v", key.Bytes(), e)
	}
}

func TestSome(t *testing.T) {
	if got, e := some(ristretto.Identity()); e != api.ErrZero || got != (ristretto.Element{}) {
		t.Errorf("the identity: %v", e)
	}
	if got, e := some(ristretto.Base()); e != api.OK || !got.Same(ristretto.Base()) {
		t.Errorf("the base: %v", e)
	}
}
