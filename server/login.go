package server

import (
	"cmp"

	"opaline/ake"
	"opaline/api"
	"opaline/envelope"
	"opaline/hmac"
	"opaline/must"
	"opaline/scalar"
	"opaline/wire"
)

// Draws are what chance gives to an answer.
type Draws struct{ MaskNonce, Nonce, Seed string }

// Waiting is a login that isn't ended.
type Waiting struct{ Session, ClientMAC string }

// answered is a login, and what is said to it.
type answered struct {
	waiting Waiting
	m       wire.KE2
}

// Answer: a login's.
func Answer(s Setting, key scalar.Scalar, r wire.Record, m wire.KE1, d Draws) (Waiting, wire.KE2, api.Errno) {
	out, e := must.Door(func() answered { return answer(s, key, r, m, d) })
	return out.waiting, out.m, e
}

func answer(s Setting, key scalar.Scalar, r wire.Record, m wire.KE1, d Draws) answered {
	asked := must.Have(m.Bytes())
	must.Have(r.Bytes())
	must.Hold(len(d.MaskNonce) == api.Nonce && len(d.Nonce) == api.Nonce, api.ErrForm)
	eph, share, e := envelope.Keys(d.Seed)
	must.OK(e)
	out := wire.KE2{
		Evaluated: evaluated(key, m.Blinded),
		MaskNonce: d.MaskNonce,
		Masked:    envelope.Mask(r.Masking, d.MaskNonce, text(s.Public)+r.Envelope),
		Nonce:     d.Nonce,
		Share:     text(share),
	}
	side := ake.Side{Eph: eph, Own: s.Own, Share: element(m.Share), Other: element(r.Public)}
	common := must.Have(side.Server())
	keys := ake.Derive(common, must.Have(s.talk(r.Public, asked, out).Preamble()))
	out.MAC = keys.ServerMAC
	return answered{Waiting{Session: keys.Session, ClientMAC: keys.ClientMAC}, out}
}

// talk: all that was said, in which keys stand for those who have no identity.
func (s Setting) talk(client, asked string, m wire.KE2) ake.Talk {
	return ake.Talk{
		Context: s.Context,
		Client:  cmp.Or(s.Client, client),
		KE1:     asked,
		Server:  cmp.Or(s.Server, text(s.Public)),
		Answer:  m.Answer(),
		Nonce:   m.Nonce,
		Share:   m.Share,
	}
}

// Finish: a login's session.
func (w Waiting) Finish(m wire.KE3) (string, api.Errno) {
	return must.Door(func() string {
		must.Have(m.Bytes())
		must.Hold(hmac.Same(m.MAC, w.ClientMAC), api.ErrMAC)
		return w.Session
	})
}
