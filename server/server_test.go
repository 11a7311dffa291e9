package server_test

import (
	"strings"
	"testing"

	"opaline/api"
	"opaline/envelope"
	"opaline/oprf"
	"opaline/scalar"
	"opaline/server"
	"opaline/wire"
)

// Bytes that are no element: too great a number, a negative one; and the identity's.
var (
	above    = strings.Repeat("\xff", 32)
	negative = "\x01" + strings.Repeat("\x00", 31)
	identity = strings.Repeat("\x00", 32)
)

func seeds() []string { return []string{"", "seed", text(32), text(64), text(128), text(129)} }

func names() []string {
	return []string{"a", "alice", "alic", "\x00", "\xff", "é", "OprfKey", "FakePublic", text(63), text(64)}
}

func TestKey(t *testing.T) {
	seen := map[scalar.Scalar]string{}
	for _, seed := range seeds() {
		for _, name := range names() {
			want, _, e := oprf.Derive(expanded(t, seed, name+"OprfKey", 32), "OPAQUE-DeriveKeyPair")
			if e != api.OK {
				t.Fatal(e)
			}
			got, e := server.Key(seed, name)
			if e != api.OK || got != want || got.Zero() {
				t.Errorf("Key of %d bytes for %q: %v", len(seed), name, e)
			}
			if other, ok := seen[got]; ok {
				t.Errorf("Key for %q is that for %q", name, other)
			}
			seen[got] = name
		}
	}
}

// wrongNames are those that no account may have.
func wrongNames() map[string]api.Errno {
	return map[string]api.Errno{
		"":                      api.ErrShort,
		text(65):                api.ErrLong,
		text(66):                api.ErrLong,
		text(64 + 256):          api.ErrLong,
		text(1 << 16):           api.ErrLong,
		text(1<<16 + 1):         api.ErrLong,
		strings.Repeat("é", 33): api.ErrLong,
	}
}

func TestKeyWrong(t *testing.T) {
	for name, want := range wrongNames() {
		for _, seed := range seeds() {
			if got, e := server.Key(seed, name); e != want || got != (scalar.Scalar{}) {
				t.Errorf("Key for a name of %d bytes: %v", len(name), e)
			}
		}
	}
}

func TestFake(t *testing.T) {
	for _, seed := range seeds() {
		for _, name := range names() {
			_, public, e := envelope.Keys(expanded(t, seed, name+"FakePublic", 32))
			if e != api.OK {
				t.Fatal(e)
			}
			want := wire.Record{
				Public:   str(public),
				Masking:  expanded(t, seed, name+"FakeMasking", 64),
				Envelope: strings.Repeat("\x00", 96),
			}
			got, e := server.Fake(seed, name)
			if e != api.OK || got != want {
				t.Errorf("Fake of %d bytes for %q: %x, %v", len(seed), name, got, e)
			}
			if s, e := got.Bytes(); e != api.OK || len(s) != 192 {
				t.Errorf("Fake of %d bytes for %q: a record of %d bytes, %v", len(seed), name, len(s), e)
			}
		}
	}
}

func TestFakeWrong(t *testing.T) {
	for name, want := range wrongNames() {
		if got, e := server.Fake("seed", name); e != want || got != (wire.Record{}) {
			t.Errorf("Fake for a name of %d bytes: %x, %v", len(name), got, e)
		}
	}
}

func TestRegister(t *testing.T) {
	for i, key := range []scalar.Scalar{scalar.Of(1), scalar.Of(2), scalar.Of(1).Neg(), scalar.Of(7).Invert()} {
		for j, element := range []scalar.Scalar{scalar.Of(1), scalar.Of(3).Invert()} {
			// The Public is handed on, whatever it is.
			s := server.Setting{Context: "c", Server: "s", Client: "c", Own: scalar.Of(uint64(j)), Public: api.Bytes([]byte(draw(i)))}
			want := wire.Response{Evaluated: base(key.Mul(element)), Public: draw(i)}
			if got, e := server.Register(s, key, wire.Request{Blinded: base(element)}); e != api.OK || got != want {
				t.Errorf("Register, case %d, %d: %x, %v", i, j, got, e)
			}
		}
	}
}

func TestRegisterWrong(t *testing.T) {
	fine := base(scalar.Of(3))
	for _, c := range []struct {
		name, blinded string
		key           uint64
		want          api.Errno
	}{
		{"nothing", "", 5, api.ErrForm},
		{"a short one", fine[:31], 5, api.ErrForm},
		{"a long one", fine + "\x00", 5, api.ErrForm},
		{"two", fine + fine, 5, api.ErrForm},
		{"too great a number", above, 5, api.ErrPoint},
		{"a negative number", negative, 5, api.ErrPoint},
		{"the identity", identity, 5, api.ErrZero},
		{"a key of 0", fine, 0, api.ErrZero},
		// The message's error is named ahead of Evaluate's, and there the element's ahead of the key's.
		{"a short one, a key of 0", fine[:31], 0, api.ErrForm},
		{"one that is too long and none", above + "\xff", 5, api.ErrForm},
		{"none, a key of 0", above, 0, api.ErrPoint},
	} {
		got, e := server.Register(server.Setting{Public: bytesOf(t, serverPublic)}, scalar.Of(c.key), wire.Request{Blinded: c.blinded})
		if e != c.want || got != (wire.Response{}) {
			t.Errorf("Register of %s: %x, %v", c.name, got, e)
		}
	}
}
