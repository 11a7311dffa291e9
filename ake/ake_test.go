package ake_test

import (
	"math"
	"testing"

	"opaline/ake"
	"opaline/api"
	"opaline/ristretto"
	"opaline/scalar"
)

// text is n bytes, of which neighbours are unlike.
func text(n int) string {
	out := make([]byte, n)
	for i := range out {
		out[i] = byte(i*7 + i>>8 + 3)
	}
	return string(out)
}

func str(b api.Bytes) string { return string(b[:]) }

// element is the base, as often as all of them multiplied.
func element(l ...scalar.Scalar) api.Bytes {
	return ristretto.Base().Times(scalar.Product(l...)).Bytes()
}

// Bytes that are no element: above p, and a negative one's.
var (
	above    = api.Bytes{0xff, 0xff, 0xff, 0xff, 31: 0xff}
	negative = api.Bytes{1}
	identity = api.Bytes{}
)

func gives(b api.Bytes, e api.Errno) func() (api.Bytes, api.Errno) {
	return func() (api.Bytes, api.Errno) { return b, e }
}

func TestThree(t *testing.T) {
	a, b, c := api.Bytes([]byte(text(32))), api.Bytes{31: 9}, api.Bytes{}
	for _, l := range [][]api.Bytes{nil, {}, {a}, {c}, {a, b}, {a, b, c}, {c, b, a}, {a, a, a}, {b, a, c, a, b}} {
		want := ""
		var calls []func() (api.Bytes, api.Errno)
		for _, x := range l {
			want += str(x)
			calls = append(calls, gives(x, api.OK))
		}
		if got, e := ake.Three(calls...); e != api.OK || got != want {
			t.Errorf("Three of %d: %x, %v", len(l), got, e)
		}
	}
}

func TestThreeWrong(t *testing.T) {
	fine, none, zero := gives(api.Bytes{1, 2}, api.OK), gives(api.Bytes{3}, api.ErrPoint), gives(api.Bytes{}, api.ErrZero)
	for i, c := range []struct {
		l    []func() (api.Bytes, api.Errno)
		want api.Errno
	}{
		{[]func() (api.Bytes, api.Errno){none}, api.ErrPoint},
		{[]func() (api.Bytes, api.Errno){none, fine, fine}, api.ErrPoint},
		{[]func() (api.Bytes, api.Errno){fine, zero, fine}, api.ErrZero},
		{[]func() (api.Bytes, api.Errno){fine, fine, none}, api.ErrPoint},
		{[]func() (api.Bytes, api.Errno){none, zero, fine}, api.ErrPoint},
		{[]func() (api.Bytes, api.Errno){zero, none, fine}, api.ErrZero},
		{[]func() (api.Bytes, api.Errno){fine, zero, none}, api.ErrZero},
		{[]func() (api.Bytes, api.Errno){fine, fine, fine, fine, zero}, api.ErrZero},
	} {
		if got, e := ake.Three(c.l...); e != c.want || got != "" {
			t.Errorf("case %d: %x, %v", i, got, e)
		}
	}
}

// TestThreeInTurn: each is asked once, the first one first.
func TestThreeInTurn(t *testing.T) {
	var asked []int
	call := func(i int) func() (api.Bytes, api.Errno) {
		return func() (api.Bytes, api.Errno) {
			asked = append(asked, i)
			return api.Bytes{byte(i)}, api.OK
		}
	}
	if got, e := ake.Three(call(1), call(2), call(3)); e != api.OK || got != str(api.Bytes{1})+str(api.Bytes{2})+str(api.Bytes{3}) {
		t.Errorf("Three: %x, %v", got, e)
	}
	if len(asked) != 3 || asked[0] != 1 || asked[1] != 2 || asked[2] != 3 {
		t.Errorf("asked: %v", asked)
	}
}

// TestSides reckons with the scalars of all elements, which neither side has.
func TestSides(t *testing.T) {
	most := scalar.Of(1).Neg()
	for _, c := range [][4]scalar.Scalar{
		{scalar.Of(2), scalar.Of(3), scalar.Of(5), scalar.Of(7)},
		{scalar.Of(1), scalar.Of(1), scalar.Of(1), scalar.Of(1)},
		{most, scalar.Of(1), scalar.Of(math.MaxUint64), most},
		{scalar.Of(11), most, most.Sub(scalar.Of(4)), scalar.Of(13)},
	} {
		eph, own, otherEph, otherOwn := c[0], c[1], c[2], c[3]
		side := ake.Side{Eph: eph, Own: own, Share: element(otherEph), Other: element(otherOwn)}
		want := str(element(eph, otherEph)) + str(element(eph, otherOwn)) + str(element(own, otherEph))
		if got, e := side.Client(); e != api.OK || got != want {
			t.Errorf("Client: %x, %v", got, e)
		}
		want = str(element(eph, otherEph)) + str(element(own, otherEph)) + str(element(eph, otherOwn))
		if got, e := side.Server(); e != api.OK || got != want {
			t.Errorf("Server: %x, %v", got, e)
		}
	}
}

func TestOneSecret(t *testing.T) {
	for i := range uint64(8) {
		a, b, c, d := scalar.Of(i+1), scalar.Of(i*i+100).Invert(), scalar.Of(i+9).Neg(), scalar.Of(7*i+5)
		client := ake.Side{Eph: a, Own: b, Share: element(c), Other: element(d)}
		server := ake.Side{Eph: c, Own: d, Share: element(a), Other: element(b)}
		one, e := client.Client()
		two, f := server.Server()
		if e != api.OK || f != api.OK || one != two || len(one) != 96 {
			t.Errorf("case %d: %x and %x, %v, %v", i, one, two, e, f)
		}
	}
}

func TestSidesWrong(t *testing.T) {
	two, three, zero := scalar.Of(2), scalar.Of(3), scalar.Of(0)
	x, y := element(scalar.Of(5)), element(scalar.Of(7))
	for i, c := range []struct {
		side           ake.Side
		client, server api.Errno
	}{
		{ake.Side{}, api.ErrZero, api.ErrZero},
		{ake.Side{Eph: zero, Own: three, Share: x, Other: y}, api.ErrZero, api.ErrZero},
		{ake.Side{Eph: two, Own: zero, Share: x, Other: y}, api.ErrZero, api.ErrZero},
		{ake.Side{Eph: two, Own: three, Share: identity, Other: y}, api.ErrZero, api.ErrZero},
		{ake.Side{Eph: two, Own: three, Share: x, Other: identity}, api.ErrZero, api.ErrZero},
		{ake.Side{Eph: two, Own: three, Share: above, Other: y}, api.ErrPoint, api.ErrPoint},
		{ake.Side{Eph: two, Own: three, Share: negative, Other: y}, api.ErrPoint, api.ErrPoint},
		{ake.Side{Eph: two, Own: three, Share: x, Other: above}, api.ErrPoint, api.ErrPoint},
		{ake.Side{Eph: two, Own: three, Share: x, Other: negative}, api.ErrPoint, api.ErrPoint},
		// The Share's error comes ahead of the Eph's, and both ahead of the others'.
		{ake.Side{Eph: zero, Own: three, Share: above, Other: y}, api.ErrPoint, api.ErrPoint},
		{ake.Side{Eph: zero, Own: three, Share: x, Other: above}, api.ErrZero, api.ErrZero},
		{ake.Side{Eph: two, Own: three, Share: identity, Other: above}, api.ErrZero, api.ErrZero},
		{ake.Side{Eph: two, Own: three, Share: above, Other: identity}, api.ErrPoint, api.ErrPoint},
		{ake.Side{Eph: two, Own: zero, Share: above, Other: y}, api.ErrPoint, api.ErrPoint},
		// Here the sides differ: a client comes to the Other first, a server to its Own.
		{ake.Side{Eph: two, Own: zero, Share: x, Other: above}, api.ErrPoint, api.ErrZero},
	} {
		if got, e := c.side.Client(); e != c.client || got != "" {
			t.Errorf("case %d, Client: %x, %v", i, got, e)
		}
		if got, e := c.side.Server(); e != c.server || got != "" {
			t.Errorf("case %d, Server: %x, %v", i, got, e)
		}
	}
}
