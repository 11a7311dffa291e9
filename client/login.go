package client

import (
	"cmp"

	"opaline/ake"
	"opaline/api"
	"opaline/envelope"
	"opaline/hmac"
	"opaline/must"
	"opaline/scalar"
	"opaline/wire"
)

// Login is one under way.
type Login struct {
	Registration
	ke1 string
	eph scalar.Scalar
}

// Done is what a login comes to.
type Done struct {
	KE3             wire.KE3
	Session, Export string
}

// begun is a login, and what it says first.
type begun struct {
	login Login
	m     wire.KE1
}

// Begin: a login begins.
func Begin(password string, blind scalar.Scalar, nonce, seed string) (Login, wire.KE1, api.Errno) {
	out, e := must.Door(func() begun { return begin(password, blind, nonce, seed) })
	return out.login, out.m, e
}

func begin(password string, blind scalar.Scalar, nonce, seed string) begun {
	r, asked, e := Register(password, blind)
	must.OK(e)
	must.Hold(len(nonce) == api.Nonce, api.ErrForm)
	eph, share, e := envelope.Keys(seed)
	must.OK(e)
	m := wire.KE1{Blinded: asked.Blinded, Nonce: nonce, Share: text(share)}
	return begun{Login{r, must.Have(m.Bytes()), eph}, m}
}

// Finish: what a login comes to.
func (l Login) Finish(s Setting, m wire.KE2) (Done, api.Errno) {
	return must.Door(func() Done { return l.finish(s, m) })
}

func (l Login) finish(s Setting, m wire.KE2) Done {
	must.Have(m.Bytes())
	server, own := open(l.hardened(m.Evaluated, s.Rounds), s, m)
	side := ake.Side{Eph: l.eph, Own: own.Secret, Share: element(m.Share), Other: server}
	secret := must.Have(side.Client())
	keys := ake.Derive(secret, must.Have(l.talk(s, m, server, own.Public).Preamble()))
	must.Hold(hmac.Same(m.MAC, keys.ServerMAC), api.ErrMAC)
	return Done{KE3: wire.KE3{MAC: keys.ClientMAC}, Session: keys.Session, Export: own.Export}
}

// open: the server's key and what the envelope has, which a second message hides.
func open(password string, s Setting, m wire.KE2) (api.Bytes, envelope.Opened) {
	shown := envelope.Mask(envelope.Masking(password), m.MaskNonce, m.Masked)
	parts := must.Have(wire.Split(shown, api.Group, api.Envelope))
	server := element(parts[0])
	return server, must.Have(envelope.Recover(password, parts[1], server, s.Server, s.Client))
}

// talk: all that was said, in which keys stand for those who have no identity.
func (l Login) talk(s Setting, m wire.KE2, server, own api.Bytes) ake.Talk {
	return ake.Talk{
		Context: s.Context,
		Client:  cmp.Or(s.Client, text(own)),
		KE1:     l.ke1,
		Server:  cmp.Or(s.Server, text(server)),
		Answer:  m.Answer(),
		Nonce:   m.Nonce,
		Share:   m.Share,
	}
}

// Opens: has it no error?
func (l Login) Opens(s Setting, m wire.KE2) bool {
	_, e := l.Finish(s, m)
	return e == api.OK
}
