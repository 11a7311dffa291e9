package client_test

import (
	"strings"
	"testing"

	"opaline/api"
	"opaline/client"
	"opaline/envelope"
	"opaline/oprf"
	"opaline/scalar"
	"opaline/wire"
)

const mostIdentity = 65535

// Bytes that are no element: above p, and a negative one's; and the identity's.
var (
	above    = strings.Repeat("\xff", 32)
	negative = "\x01" + strings.Repeat("\x00", 31)
	identity = strings.Repeat("\x00", 32)
)

// settings are some that differ in all they have.
func settings() []client.Setting {
	return []client.Setting{
		{},
		{Context: "context"},
		{Server: "bob"},
		{Client: "alice"},
		{Context: "context", Server: "bob", Client: "alice", Rounds: 3},
		{Rounds: 1},
		{Rounds: -1},
		{Context: text(mostIdentity), Server: text(mostIdentity), Client: text(mostIdentity), Rounds: 20},
	}
}

func passwords() []string {
	return []string{"", "pw", "\x00", "pässwörd", text(255), text(api.MaxPassword)}
}

func TestRegister(t *testing.T) {
	for _, password := range passwords() {
		for _, blind := range []scalar.Scalar{scalar.Of(1), scalar.Of(3), scalar.Of(1).Neg()} {
			blinded, e := oprf.Blind(password, blind)
			if e != api.OK {
				t.Fatal(e)
			}
			if _, m, e := client.Register(password, blind); e != api.OK || m.Blinded != str(blinded.Bytes()) {
				t.Errorf("Register of %d bytes: %x, %v", len(password), m.Blinded, e)
			}
		}
	}
}

func TestRegisterWrong(t *testing.T) {
	for _, c := range []struct {
		password int
		blind    uint64
		want     api.Errno
	}{
		{0, 0, api.ErrZero},
		{256, 0, api.ErrZero},
		{257, 3, api.ErrLong},
		{300, 3, api.ErrLong},
		{512, 3, api.ErrLong},
		{1 << 16, 3, api.ErrLong},
		// The password's length is named ahead of Blind's error.
		{257, 0, api.ErrLong},
	} {
		r, m, e := client.Register(text(c.password), scalar.Of(c.blind))
		if e != c.want || r != (client.Registration{}) || m != (wire.Request{}) {
			t.Errorf("Register of %d bytes, blind %d: %x, %v", c.password, c.blind, m.Blinded, e)
		}
	}
}

// TestFinish: a record hangs on the password, the server's key of the function, its element, the nonce and the setting; not on the blind.
func TestFinish(t *testing.T) {
	key, public := scalar.Of(5), base(scalar.Of(77))
	for _, s := range settings() {
		for i, password := range passwords() {
			nonce := text(32 + i)[i:]
			hard := hardened(t, key, password, s.Rounds)
			stored, e := envelope.Store(hard, nonce, api.Bytes([]byte(public)), s.Server, s.Client)
			if e != api.OK {
				t.Fatal(e)
			}
			want := wire.Record{Public: str(stored.Public), Masking: expanded(t, hard, "MaskingKey", 64), Envelope: stored.Envelope}
			r, m, e := client.Register(password, scalar.Of(uint64(i)+1))
			if e != api.OK {
				t.Fatal(e)
			}
			got, export, e := r.Finish(s, wire.Response{Evaluated: times(key, m.Blinded), Public: public}, nonce)
			if e != api.OK || got != want || export != stored.Export {
				t.Errorf("Finish of %d bytes, %d rounds: %x, %x, %v", len(password), s.Rounds, got, export, e)
			}
			if _, e := got.Bytes(); e != api.OK {
				t.Errorf("a record without its lengths: %v", e)
			}
		}
	}
}

func TestFinishWrong(t *testing.T) {
	r, m, e := client.Register("pw", scalar.Of(3))
	if e != api.OK {
		t.Fatal(e)
	}
	fine, public := times(scalar.Of(5), m.Blinded), base(scalar.Of(7))
	long := text(mostIdentity + 1)
	for i, c := range []struct {
		evaluated, public, nonce string
		server, client           string
		want                     api.Errno
	}{
		{"", "", "", "", "", api.ErrForm},
		{fine[:31], public, text(32), "", "", api.ErrForm},
		{fine + "x", public, text(32), "", "", api.ErrForm},
		{fine, public[:31], text(32), "", "", api.ErrForm},
		{fine, public + "x", text(32), "", "", api.ErrForm},
		{fine + public, "", text(32), "", "", api.ErrForm},
		{above, public, text(32), "", "", api.ErrPoint},
		{negative, public, text(32), "", "", api.ErrPoint},
		{identity, public, text(32), "", "", api.ErrZero},
		{fine, above, text(32), "", "", api.ErrPoint},
		{fine, negative, text(32), "", "", api.ErrPoint},
		{fine, identity, text(32), "", "", api.ErrZero},
		{fine, public, "", "", "", api.ErrForm},
		{fine, public, text(31), "", "", api.ErrForm},
		{fine, public, text(33), "", "", api.ErrForm},
		{fine, public, text(32), long, "", api.ErrLong},
		{fine, public, text(32), "", long, api.ErrLong},
		// The message's lengths come ahead of its elements, the server's ahead of what was evaluated, and both ahead of Store's errors.
		{above, public + "x", text(32), "", "", api.ErrForm},
		{identity + "x", above, text(32), "", "", api.ErrForm},
		{identity, above, text(32), "", "", api.ErrPoint},
		{above, identity, text(32), "", "", api.ErrZero},
		{fine, above, text(31), long, "", api.ErrPoint},
		{above, public, text(31), "", long, api.ErrPoint},
		{identity, public, text(32), long, "", api.ErrZero},
		{fine, public, text(31), long, long, api.ErrForm},
	} {
		s := client.Setting{Server: c.server, Client: c.client}
		record, export, e := r.Finish(s, wire.Response{Evaluated: c.evaluated, Public: c.public}, c.nonce)
		if e != c.want || record != (wire.Record{}) || export != "" {
			t.Errorf("case %d: %x, %x, %v", i, record, export, e)
		}
	}
	// None of these spoilt it.
	if _, _, e := r.Finish(client.Setting{}, wire.Response{Evaluated: fine, Public: public}, text(32)); e != api.OK {
		t.Errorf("Finish behind errors: %v", e)
	}
}

// TestFinishContext: a record doesn't hang on the context, however long it is.
func TestFinishContext(t *testing.T) {
	r, m, _ := client.Register("pw", scalar.Of(3))
	response := wire.Response{Evaluated: times(scalar.Of(5), m.Blinded), Public: base(scalar.Of(7))}
	one, export, e := r.Finish(client.Setting{}, response, text(32))
	two, again, f := r.Finish(client.Setting{Context: text(mostIdentity + 1)}, response, text(32))
	if e != api.OK || f != api.OK || one != two || export != again {
		t.Errorf("Finish with a long context: %v, %v", e, f)
	}
}

// TestFinishAgain: two registrations under way know nothing of each other, and each can be asked again.
func TestFinishAgain(t *testing.T) {
	response := func(m wire.Request) wire.Response {
		return wire.Response{Evaluated: times(scalar.Of(5), m.Blinded), Public: base(scalar.Of(7))}
	}
	a, m, _ := client.Register("one", scalar.Of(3))
	b, n, _ := client.Register("two", scalar.Of(4))
	first, export, _ := a.Finish(client.Setting{}, response(m), text(32))
	other, _, _ := b.Finish(client.Setting{}, response(n), text(32))
	b.Finish(client.Setting{Rounds: 3}, response(m), text(32))
	again, same, e := a.Finish(client.Setting{}, response(m), text(32))
	if e != api.OK || first != again || export != same || first == other {
		t.Errorf("Finish, asked again: %v", e)
	}
}
