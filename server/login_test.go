package server_test

import (
	"testing"

	"opaline/api"
	"opaline/client"
	"opaline/envelope"
	"opaline/scalar"
	"opaline/server"
	"opaline/wire"
)

const mostIdentity = 65535

// asked is a login's beginning, as Answer is asked for it.
type asked struct {
	s   server.Setting
	key scalar.Scalar
	r   wire.Record
	m   wire.KE1
	d   server.Draws
}

func (a asked) answer() (server.Waiting, wire.KE2, api.Errno) {
	return server.Answer(a.s, a.key, a.r, a.m, a.d)
}

// fine is one that has no error.
func fine() asked {
	own := scalar.Of(11)
	return asked{
		s:   server.Setting{Context: "context", Server: "bob", Client: "alice", Own: own, Public: api.Bytes([]byte(base(own)))},
		key: scalar.Of(5),
		r:   wire.Record{Public: base(scalar.Of(13)), Masking: text(64), Envelope: text(100)[4:]},
		m:   wire.KE1{Blinded: base(scalar.Of(17)), Nonce: draw(1), Share: base(scalar.Of(19))},
		d:   server.Draws{MaskNonce: draw(2), Nonce: draw(3), Seed: draw(4)},
	}
}

// cases are such as have no error, too, each unlike fine's in another thing.
func cases() []func(a *asked) {
	return []func(a *asked){
		func(a *asked) {},
		func(a *asked) { a.s.Context = "" },
		func(a *asked) { a.s.Context = text(mostIdentity) },
		func(a *asked) { a.s.Server = "" },
		func(a *asked) { a.s.Client = "" },
		func(a *asked) { a.s.Server, a.s.Client, a.s.Context = "", "", "" },
		func(a *asked) { a.s.Server, a.s.Client = "\x00", "\x00" },
		func(a *asked) { a.s.Server, a.s.Client = text(mostIdentity), text(mostIdentity) },
		func(a *asked) { a.s.Own = scalar.Of(11).Neg() },
		// The Public is told, not reckoned with: it needn't be Own's, nor an element.
		func(a *asked) { a.s.Public, a.s.Server = api.Bytes([]byte(draw(9))), "" },
		func(a *asked) { a.key = scalar.Of(1).Neg() },
		func(a *asked) { a.r.Public = base(scalar.Of(14)) },
		func(a *asked) { a.r.Public, a.s.Client = base(scalar.Of(14)), "" },
		func(a *asked) { a.r.Masking = string(make([]byte, 64)) },
		func(a *asked) { a.r.Envelope = string(make([]byte, 96)) },
		func(a *asked) { a.m.Blinded = base(scalar.Of(17).Invert()) },
		func(a *asked) { a.m.Nonce = string(make([]byte, 32)) },
		func(a *asked) { a.m.Share = base(scalar.Of(19).Invert()) },
		func(a *asked) { a.d.MaskNonce = string(make([]byte, 32)) },
		func(a *asked) { a.d.Nonce = string(make([]byte, 32)) },
		func(a *asked) { a.d.Seed = string(make([]byte, 32)) },
		func(a *asked) { a.d = server.Draws{MaskNonce: draw(7), Nonce: draw(7), Seed: draw(7)} },
	}
}

func TestAnswer(t *testing.T) {
	seen := map[server.Waiting]int{}
	for i, change := range cases() {
		a := fine()
		change(&a)
		eph, _, e := envelope.Keys(a.d.Seed)
		if e != api.OK {
			t.Fatal(e)
		}
		waiting, out := answerOf(t, a.s, a.key, eph, a.r, a.m, a.d)
		w, got, e := a.answer()
		if e != api.OK || w != waiting || got != out {
			t.Errorf("case %d: %x, %x, %v", i, w, got, e)
		}
		if s, e := got.Bytes(); e != api.OK || len(s) != 320 || len(w.Session) != 64 || len(w.ClientMAC) != 64 {
			t.Errorf("case %d: an answer of %d bytes, %v", i, len(s), e)
		}
		if other, ok := seen[w]; ok {
			t.Errorf("cases %d and %d have one session", i, other)
		}
		seen[w] = i
		if session, e := w.Finish(wire.KE3{MAC: w.ClientMAC}); e != api.OK || session != waiting.Session {
			t.Errorf("case %d: Finish: %x, %v", i, session, e)
		}
	}
}

// refused: Answer answers an error alone.
func refused(t *testing.T, what string, a asked, want api.Errno) {
	t.Helper()
	if w, out, e := a.answer(); e != want || w != (server.Waiting{}) || out != (wire.KE2{}) {
		t.Errorf("%s: %x, %x, %v, wanted %v", what, w, out, e, want)
	}
}

// TestAnswerForm: each part has its length, and no other one.
func TestAnswerForm(t *testing.T) {
	for _, c := range []struct {
		name string
		part func(a *asked) *string
	}{
		{"KE1's Blinded", func(a *asked) *string { return &a.m.Blinded }},
		{"KE1's Nonce", func(a *asked) *string { return &a.m.Nonce }},
		{"KE1's Share", func(a *asked) *string { return &a.m.Share }},
		{"the record's Public", func(a *asked) *string { return &a.r.Public }},
		{"the record's Masking", func(a *asked) *string { return &a.r.Masking }},
		{"the record's Envelope", func(a *asked) *string { return &a.r.Envelope }},
		{"the MaskNonce", func(a *asked) *string { return &a.d.MaskNonce }},
		{"the Nonce", func(a *asked) *string { return &a.d.Nonce }},
		{"the Seed", func(a *asked) *string { return &a.d.Seed }},
	} {
		a := fine()
		part := c.part(&a)
		whole := *part
		for _, s := range []string{"", whole[1:], whole[:len(whole)-1], whole + "x", whole + whole} {
			*part = s
			refused(t, c.name, a, api.ErrForm)
			// All of these are named ahead of what is reckoned.
			b := a
			b.key, b.s.Own, b.s.Context = scalar.Scalar{}, scalar.Scalar{}, text(mostIdentity+1)
			refused(t, c.name+", and others", b, api.ErrForm)
		}
	}
	refused(t, "nothing", asked{}, api.ErrForm)
}

func TestAnswerWrong(t *testing.T) {
	long := text(mostIdentity + 1)
	for _, c := range []struct {
		name   string
		change func(a *asked)
		want   api.Errno
	}{
		{"blinded, too great a number", func(a *asked) { a.m.Blinded = above }, api.ErrPoint},
		{"blinded, a negative number", func(a *asked) { a.m.Blinded = negative }, api.ErrPoint},
		{"blinded, the identity", func(a *asked) { a.m.Blinded = identity }, api.ErrZero},
		{"a key of 0", func(a *asked) { a.key = scalar.Scalar{} }, api.ErrZero},
		{"a share, too great a number", func(a *asked) { a.m.Share = above }, api.ErrPoint},
		{"a share, a negative number", func(a *asked) { a.m.Share = negative }, api.ErrPoint},
		{"a share, the identity", func(a *asked) { a.m.Share = identity }, api.ErrZero},
		{"an own key of 0", func(a *asked) { a.s.Own = scalar.Scalar{} }, api.ErrZero},
		{"a client's key, too great a number", func(a *asked) { a.r.Public = above }, api.ErrPoint},
		{"a client's key, a negative number", func(a *asked) { a.r.Public = negative }, api.ErrPoint},
		{"a client's key, the identity", func(a *asked) { a.r.Public = identity }, api.ErrZero},
		{"a long context", func(a *asked) { a.s.Context = long }, api.ErrLong},
		{"a long client", func(a *asked) { a.s.Client = long }, api.ErrLong},
		{"a long server", func(a *asked) { a.s.Server = long }, api.ErrLong},
		// Evaluate's error is named ahead of the side's, that ahead of what was said.
		{"blinded, none; a share, the identity", func(a *asked) { a.m.Blinded, a.m.Share = above, identity }, api.ErrPoint},
		{"blinded, the identity; a share, none", func(a *asked) { a.m.Blinded, a.m.Share = identity, above }, api.ErrZero},
		{"a key of 0; a share, none", func(a *asked) { a.key, a.m.Share = scalar.Scalar{}, above }, api.ErrZero},
		{"a key of 0; a client's key, none", func(a *asked) { a.key, a.r.Public = scalar.Scalar{}, above }, api.ErrZero},
		{"a key of 0; a long context", func(a *asked) { a.key, a.s.Context = scalar.Scalar{}, long }, api.ErrZero},
		{"a share, none; an own key of 0", func(a *asked) { a.m.Share, a.s.Own = above, scalar.Scalar{} }, api.ErrPoint},
		{"an own key of 0; a client's key, none", func(a *asked) { a.s.Own, a.r.Public = scalar.Scalar{}, above }, api.ErrZero},
		{"a share, the identity; a client's key, none", func(a *asked) { a.m.Share, a.r.Public = identity, above }, api.ErrZero},
		{"a client's key, none; a long server", func(a *asked) { a.r.Public, a.s.Server = above, long }, api.ErrPoint},
		{"an own key of 0; a long client", func(a *asked) { a.s.Own, a.s.Client = scalar.Scalar{}, long }, api.ErrZero},
	} {
		a := fine()
		c.change(&a)
		refused(t, c.name, a, c.want)
	}
}

func TestFinishWrong(t *testing.T) {
	w, _, e := fine().answer()
	if e != api.OK {
		t.Fatal(e)
	}
	mac := w.ClientMAC
	refuses := func(w server.Waiting, s string, want api.Errno) {
		t.Helper()
		if got, e := w.Finish(wire.KE3{MAC: s}); e != want || got != "" {
			t.Errorf("Finish of %x: %x, %v, wanted %v", s, got, e, want)
		}
	}
	for _, s := range []string{"", mac[:63], mac[1:], mac + "\x00", mac + mac} {
		refuses(w, s, api.ErrForm)
	}
	for i := range 512 {
		turned := []byte(mac)
		turned[i/8] ^= 1 << (i % 8)
		refuses(w, string(turned), api.ErrMAC)
	}
	refuses(w, w.Session, api.ErrMAC)
	refuses(w, string(make([]byte, 64)), api.ErrMAC)
	// Of nothing that waits there is no session, and a message without its length is told as such.
	refuses(server.Waiting{}, "", api.ErrForm)
	refuses(server.Waiting{}, string(make([]byte, 64)), api.ErrMAC)
	refuses(server.Waiting{Session: "s", ClientMAC: "m"}, "m", api.ErrForm)
	if got, e := w.Finish(wire.KE3{MAC: mac}); e != api.OK || got != w.Session {
		t.Errorf("Finish behind errors: %x, %v", got, e)
	}
}

// account is one that registered at a server.
type account struct {
	a      asked
	set    client.Setting
	export string
}

func registered(t *testing.T, name, password string, set client.Setting) account {
	t.Helper()
	own := scalar.Of(23).Invert()
	a := asked{
		s: server.Setting{Context: set.Context, Server: set.Server, Client: set.Client, Own: own, Public: api.Bytes([]byte(base(own)))},
		d: server.Draws{MaskNonce: draw(21), Nonce: draw(22), Seed: draw(23)},
	}
	key, e := server.Key("seed", name)
	if e != api.OK {
		t.Fatal(e)
	}
	r, m, e := client.Register(password, scalar.Of(29))
	if e != api.OK {
		t.Fatal(e)
	}
	response, e := server.Register(a.s, key, m)
	if e != api.OK {
		t.Fatal(e)
	}
	record, export, e := r.Finish(set, response, draw(24))
	if e != api.OK {
		t.Fatal(e)
	}
	a.key, a.r = key, record
	return account{a, set, export}
}

// login is what a client comes to with a password, and what waits at the server.
func (c account) login(t *testing.T, password string) (client.Done, server.Waiting, api.Errno) {
	t.Helper()
	l, m, e := client.Begin(password, scalar.Of(31).Neg(), draw(25), draw(26))
	if e != api.OK {
		t.Fatal(e)
	}
	c.a.m = m
	w, answer, e := c.a.answer()
	if e != api.OK {
		t.Fatal(e)
	}
	done, e := l.Finish(c.set, answer)
	return done, w, e
}

func TestLogin(t *testing.T) {
	passwords := []string{"", "pw", "Pw", "pw ", text(255), text(256)}
	for i, set := range []client.Setting{
		{},
		{Server: "hsm", Rounds: 2},
		{Context: "context", Client: "alice", Rounds: 1},
		{Context: text(mostIdentity), Server: text(300), Client: text(301)},
	} {
		for j, password := range passwords {
			c := registered(t, names()[j], password, set)
			done, w, e := c.login(t, password)
			if e != api.OK || done.Session != w.Session || done.Export != c.export || len(c.export) != 64 {
				t.Errorf("setting %d, password %d: %v", i, j, e)
			}
			if session, e := w.Finish(done.KE3); e != api.OK || session != done.Session || len(session) != 64 {
				t.Errorf("setting %d, password %d: Finish: %v", i, j, e)
			}
			for k, other := range passwords {
				if k == j {
					continue
				}
				if got, _, e := c.login(t, other); e != api.ErrOpen || got != (client.Done{}) {
					t.Errorf("setting %d, password %d, by %d: %v", i, j, k, e)
				}
			}
		}
	}
}

// TestLoginOther: by another account's key or record nobody logs in, nor with another one's last message.
func TestLoginOther(t *testing.T) {
	alice := registered(t, "alice", "pw", client.Setting{})
	bob := registered(t, "bob", "pw", client.Setting{})
	if alice.a.r == bob.a.r || alice.export == bob.export {
		t.Error("two accounts with one password have one record")
	}
	mixed := alice
	mixed.a.key = bob.a.key
	if _, _, e := mixed.login(t, "pw"); e != api.ErrOpen {
		t.Errorf("by another account's key: %v", e)
	}
	mixed = alice
	mixed.a.r = bob.a.r
	if _, _, e := mixed.login(t, "pw"); e != api.ErrOpen {
		t.Errorf("by another account's record: %v", e)
	}
	done, w, _ := bob.login(t, "pw")
	_, waiting, _ := alice.login(t, "pw")
	if _, e := waiting.Finish(done.KE3); e != api.ErrMAC {
		t.Errorf("by another one's last message: %v", e)
	}
	if _, e := w.Finish(done.KE3); e != api.OK {
		t.Errorf("by its own last message: %v", e)
	}
}

// TestLoginNobody: an account that isn't there is answered as one that is, but nothing opens.
func TestLoginNobody(t *testing.T) {
	c := registered(t, "alice", "pw", client.Setting{Server: "hsm"})
	record, e := server.Fake("seed", "nobody")
	if e != api.OK {
		t.Fatal(e)
	}
	c.a.r = record
	if c.a.key, e = server.Key("seed", "nobody"); e != api.OK {
		t.Fatal(e)
	}
	for _, password := range []string{"", "pw", text(256)} {
		if _, w, e := c.login(t, password); e != api.ErrOpen || len(w.Session) != 64 || len(w.ClientMAC) != 64 {
			t.Errorf("a login of nobody: %v", e)
		}
	}
}
