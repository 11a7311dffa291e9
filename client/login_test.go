package client_test

import (
	"slices"
	"strings"
	"testing"

	"opaline/api"
	"opaline/client"
	"opaline/envelope"
	"opaline/scalar"
	"opaline/wire"
)

func TestBegin(t *testing.T) {
	for i, password := range passwords() {
		blind, nonce, seed := scalar.Of(uint64(i)+1), text(40 + i)[8+i:], text(50 + i)[18+i:]
		_, asked, e := client.Register(password, blind)
		if e != api.OK {
			t.Fatal(e)
		}
		_, share, e := envelope.Keys(seed)
		if e != api.OK {
			t.Fatal(e)
		}
		want := wire.KE1{Blinded: asked.Blinded, Nonce: nonce, Share: str(share)}
		if _, m, e := client.Begin(password, blind, nonce, seed); e != api.OK || m != want {
			t.Errorf("Begin of %d bytes: %x, %v", len(password), m, e)
		}
	}
}

func TestBeginWrong(t *testing.T) {
	for _, c := range []struct {
		password    int
		blind       uint64
		nonce, seed int
		want        api.Errno
	}{
		{257, 3, 32, 32, api.ErrLong},
		{1 << 16, 3, 32, 32, api.ErrLong},
		{2, 0, 32, 32, api.ErrZero},
		{2, 3, 0, 32, api.ErrForm},
		{2, 3, 31, 32, api.ErrForm},
		{2, 3, 33, 32, api.ErrForm},
		{2, 3, 32, 0, api.ErrForm},
		{2, 3, 32, 31, api.ErrForm},
		{2, 3, 32, 33, api.ErrForm},
		{2, 3, 32, 64, api.ErrForm},
		// Register's errors are named ahead of the others.
		{257, 0, 31, 31, api.ErrLong},
		{2, 0, 31, 31, api.ErrZero},
		{2, 0, 32, 31, api.ErrZero},
		{257, 3, 32, 31, api.ErrLong},
	} {
		l, m, e := client.Begin(text(c.password), scalar.Of(c.blind), text(c.nonce), text(c.seed))
		if e != c.want || l != (client.Login{}) || m != (wire.KE1{}) {
			t.Errorf("Begin of %d bytes, blind %d, nonce of %d, seed of %d: %v", c.password, c.blind, c.nonce, c.seed, e)
		}
	}
}

// begun is a login of a password.
func begun(t *testing.T, password string) (client.Login, wire.KE1) {
	t.Helper()
	l, m, e := client.Begin(password, scalar.Of(3), text(40)[8:], text(50)[18:])
	if e != api.OK {
		t.Fatal(e)
	}
	return l, m
}

func TestLogin(t *testing.T) {
	for _, s := range settings() {
		for _, password := range passwords() {
			v := newServer(t, s, password, "")
			l, m := begun(t, password)
			answer, want := v.answer(t, m)
			if got, e := l.Finish(s, answer); e != api.OK || got != want {
				t.Errorf("Finish of %d bytes, %d rounds: %x, %v", len(password), s.Rounds, got, e)
			}
			if !l.Opens(s, answer) {
				t.Errorf("Opens of %d bytes, %d rounds", len(password), s.Rounds)
			}
		}
	}
}

// TestRegisteredLogin: what Register's Finish made is opened by Login's, with the same key that goes out.
func TestRegisteredLogin(t *testing.T) {
	for i, s := range settings() {
		v := newServer(t, s, "pw", "")
		r, m, _ := client.Register("pw", scalar.Of(uint64(i)+9))
		record, export, e := r.Finish(s, wire.Response{Evaluated: times(v.key, m.Blinded), Public: v.public}, text(32))
		if e != api.OK || record.Envelope != v.stored.Envelope || record.Masking != v.masking {
			t.Fatalf("case %d: a record: %v", i, e)
		}
		l, first := begun(t, "pw")
		answer, _ := v.answer(t, first)
		if done, e := l.Finish(s, answer); e != api.OK || done.Export != export || len(done.Session) != 64 || len(done.KE3.MAC) != 64 {
			t.Errorf("case %d: a login: %v", i, e)
		}
	}
}

// refused: Finish answers an error alone, and Opens false.
func refused(t *testing.T, what string, l client.Login, s client.Setting, m wire.KE2, want api.Errno) {
	t.Helper()
	if got, e := l.Finish(s, m); e != want || got != (client.Done{}) {
		t.Errorf("%s: %x, %v, wanted %v", what, got, e, want)
	}
	if l.Opens(s, m) {
		t.Errorf("%s: it opens", what)
	}
}

func TestLoginForm(t *testing.T) {
	v := newServer(t, client.Setting{}, "pw", "")
	l, m := begun(t, "pw")
	fine, _ := v.answer(t, m)
	for _, c := range []struct {
		name string
		part func(m *wire.KE2) *string
	}{
		{"Evaluated", func(m *wire.KE2) *string { return &m.Evaluated }},
		{"MaskNonce", func(m *wire.KE2) *string { return &m.MaskNonce }},
		{"Masked", func(m *wire.KE2) *string { return &m.Masked }},
		{"Nonce", func(m *wire.KE2) *string { return &m.Nonce }},
		{"Share", func(m *wire.KE2) *string { return &m.Share }},
		{"MAC", func(m *wire.KE2) *string { return &m.MAC }},
	} {
		turned := fine
		part := c.part(&turned)
		whole := *part
		for _, s := range []string{"", whole[1:], whole[:len(whole)-1], whole + "x", whole + whole} {
			*part = s
			refused(t, c.name, l, client.Setting{}, turned, api.ErrForm)
		}
	}
	refused(t, "nothing", l, client.Setting{}, wire.KE2{}, api.ErrForm)
	if !l.Opens(client.Setting{}, fine) {
		t.Error("behind errors it doesn't open")
	}
}

// TestLoginOther: by another password, setting or server it doesn't open.
func TestLoginOther(t *testing.T) {
	s := client.Setting{Context: "context", Server: "bob", Client: "alice", Rounds: 3}
	v := newServer(t, s, "pw", "")
	for _, password := range []string{"", "p", "pw ", "Pw", text(256)} {
		l, m := begun(t, password)
		answer, _ := v.answer(t, m)
		refused(t, "a password", l, s, answer, api.ErrOpen)
	}
	l, m := begun(t, "pw")
	answer, _ := v.answer(t, m)
	for _, c := range []struct {
		s    client.Setting
		want api.Errno
	}{
		{client.Setting{Context: "context", Server: "bob", Client: "alice", Rounds: 2}, api.ErrOpen},
		{client.Setting{Context: "context", Server: "bob", Client: "alice", Rounds: 4}, api.ErrOpen},
		{client.Setting{Context: "context", Server: "bob", Client: "alice"}, api.ErrOpen},
		{client.Setting{Context: "context", Server: "bo", Client: "alice", Rounds: 3}, api.ErrOpen},
		{client.Setting{Context: "context", Client: "alice", Rounds: 3}, api.ErrOpen},
		{client.Setting{Context: "context", Server: "bob", Client: "Alice", Rounds: 3}, api.ErrOpen},
		{client.Setting{Context: "context", Server: "bob", Rounds: 3}, api.ErrOpen},
		// The envelope doesn't hang on the context: here the MAC alone is another one.
		{client.Setting{Context: "contexts", Server: "bob", Client: "alice", Rounds: 3}, api.ErrMAC},
		{client.Setting{Server: "bob", Client: "alice", Rounds: 3}, api.ErrMAC},
		{s, api.OK},
	} {
		if _, e := l.Finish(c.s, answer); e != c.want {
			t.Errorf("%+v: %v", c.s, e)
		}
	}
	// A server with another key of the function, or one that hasn't its key.
	w := v
	w.key = scalar.Of(6)
	answer, _ = w.answer(t, m)
	refused(t, "another key of the function", l, s, answer, api.ErrOpen)
	w = v
	w.own = scalar.Of(8)
	answer, _ = w.answer(t, m)
	refused(t, "another key", l, s, answer, api.ErrMAC)
}

// mayBe are the errors to which a turned bit of an answer's byte may lead.
func mayBe(i int) []api.Errno {
	switch {
	case i < 32: // what was evaluated is none, or another one
		return []api.Errno{api.ErrPoint, api.ErrOpen}
	case i < 192: // another key, or another envelope, is shown
		return []api.Errno{api.ErrOpen}
	case i >= 224 && i < 256: // the Share is none, or another one
		return []api.Errno{api.ErrPoint, api.ErrMAC}
	}
	return []api.Errno{api.ErrMAC}
}

// TestLoginTurned turns a bit of each byte of an answer: with none of them it opens.
func TestLoginTurned(t *testing.T) {
	v := newServer(t, client.Setting{}, "pw", "")
	l, m := begun(t, "pw")
	fine, _ := v.answer(t, m)
	whole, _ := fine.Bytes()
	for i := range whole {
		turned := []byte(whole)
		turned[i] ^= 1 << (i % 8)
		answer, _ := wire.ParseKE2(string(turned))
		if got, e := l.Finish(client.Setting{}, answer); !slices.Contains(mayBe(i), e) || got != (client.Done{}) {
			t.Errorf("with the byte %d turned: %v", i, e)
		}
	}
}

func TestLoginMAC(t *testing.T) {
	v := newServer(t, client.Setting{}, "pw", "")
	l, m := begun(t, "pw")
	fine, done := v.answer(t, m)
	for _, mac := range []string{strings.Repeat("\x00", 64), strings.Repeat("\xff", 64), done.KE3.MAC, done.Session, fine.MAC[1:] + fine.MAC[:1]} {
		turned := fine
		turned.MAC = mac
		refused(t, "another MAC", l, client.Setting{}, turned, api.ErrMAC)
	}
}

// TestLoginElements: errors of the elements in an answer, each ahead of those behind it.
func TestLoginElements(t *testing.T) {
	long := text(mostIdentity + 1)
	none := client.Setting{}
	v := newServer(t, none, "pw", "")
	l, m := begun(t, "pw")
	wrong, first := begun(t, "px")
	fine, _ := v.answer(t, m)
	closed, _ := v.answer(t, first)
	with := func(m wire.KE2, evaluated, share string) wire.KE2 {
		if evaluated != "" {
			m.Evaluated = evaluated
		}
		if share != "" {
			m.Share = share
		}
		return m
	}
	for i, c := range []struct {
		l    client.Login
		s    client.Setting
		m    wire.KE2
		want api.Errno
	}{
		{l, none, with(fine, above, ""), api.ErrPoint},
		{l, none, with(fine, negative, ""), api.ErrPoint},
		{l, none, with(fine, identity, ""), api.ErrZero},
		{l, none, with(fine, "", above), api.ErrPoint},
		{l, none, with(fine, "", negative), api.ErrPoint},
		{l, none, with(fine, "", identity), api.ErrZero},
		{l, client.Setting{Server: long}, fine, api.ErrLong},
		{l, client.Setting{Client: long}, fine, api.ErrLong},
		{l, client.Setting{Context: long}, fine, api.ErrLong},
		// Finalize's error ahead of Recover's.
		{l, client.Setting{Server: long}, with(fine, above, ""), api.ErrPoint},
		{l, client.Setting{Client: long}, with(fine, identity, above), api.ErrZero},
		// Recover's ahead of the Share's, and of the context's.
		{l, client.Setting{Client: long}, with(fine, "", above), api.ErrLong},
		{wrong, none, with(closed, "", above), api.ErrOpen},
		{wrong, client.Setting{Context: long}, closed, api.ErrOpen},
		// The Share's ahead of the context's; the context's ahead of the MAC's, which is another one here.
		{l, client.Setting{Context: long}, with(fine, "", above), api.ErrPoint},
		{l, client.Setting{Context: long}, with(fine, "", identity), api.ErrZero},
	} {
		if got, e := c.l.Finish(c.s, c.m); e != c.want || got != (client.Done{}) {
			t.Errorf("case %d: %v, wanted %v", i, e, c.want)
		}
	}
}

// TestLoginServerKey: an envelope opens that was stored with a server's key that is no element; then the client finds it out.
func TestLoginServerKey(t *testing.T) {
	for _, c := range []struct {
		public string
		want   api.Errno
	}{{above, api.ErrPoint}, {negative, api.ErrPoint}, {identity, api.ErrZero}} {
		v := newServer(t, client.Setting{}, "pw", c.public)
		l, m := begun(t, "pw")
		answer, _ := v.answer(t, m)
		refused(t, "a server's key that is none", l, client.Setting{}, answer, c.want)
		refused(t, "and a long context", l, client.Setting{Context: text(mostIdentity + 1)}, answer, c.want)
		answer.Share = identity
		refused(t, "and a Share that is the identity", l, client.Setting{}, answer, api.ErrZero)
		answer.Share = above
		refused(t, "and a Share that is none", l, client.Setting{}, answer, api.ErrPoint)
	}
}

// TestLoginAgain: what Finish answers doesn't hang on what was asked ahead of it, nor on other logins.
func TestLoginAgain(t *testing.T) {
	s := client.Setting{Context: "context", Rounds: 2}
	v := newServer(t, s, "pw", "")
	l, m := begun(t, "pw")
	answer, want := v.answer(t, m)
	other, first, e := client.Begin("pw", scalar.Of(4), text(41)[9:], text(51)[19:])
	if e != api.OK {
		t.Fatal(e)
	}
	second, wanted := v.answer(t, first)
	for range 2 {
		if got, e := l.Finish(s, answer); e != api.OK || got != want {
			t.Errorf("Finish: %v", e)
		}
		l.Finish(client.Setting{}, answer)
		l.Finish(s, wire.KE2{})
		if got, e := other.Finish(s, second); e != api.OK || got != wanted || got.Session == want.Session || got.Export != want.Export {
			t.Errorf("Finish of another login: %v", e)
		}
		// An answer is for the login that asked.
		refused(t, "another one's answer", l, s, second, api.ErrOpen)
		refused(t, "the first one's answer", other, s, answer, api.ErrOpen)
	}
}

// TestLoginBegunTwice: of two logins with the same blind the answers still hang on nonce and seed.
func TestLoginBegunTwice(t *testing.T) {
	v := newServer(t, client.Setting{}, "pw", "")
	_, m := begun(t, "pw")
	answer, _ := v.answer(t, m)
	for _, c := range []struct{ nonce, seed string }{
		{text(41)[9:], text(50)[18:]},
		{text(40)[8:], text(51)[19:]},
	} {
		l, _, e := client.Begin("pw", scalar.Of(3), c.nonce, c.seed)
		if e != api.OK {
			t.Fatal(e)
		}
		refused(t, "another nonce or seed", l, client.Setting{}, answer, api.ErrMAC)
	}
}
