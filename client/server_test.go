package client_test

import (
	"crypto/hkdf"
	stdhmac "crypto/hmac"
	"crypto/sha512"
	"encoding/binary"
	"testing"

	"opaline/api"
	"opaline/client"
	"opaline/envelope"
	"opaline/oprf"
	"opaline/ristretto"
	"opaline/scalar"
	"opaline/wire"
)

// What a server does is told here by RFC 9807's words, with the library's HMAC and HKDF.

// text is n bytes, of which neighbours are unlike.
func text(n int) string {
	out := make([]byte, n)
	for i := range out {
		out[i] = byte(i*7 + i>>8 + 3)
	}
	return string(out)
}

func str(b api.Bytes) string { return string(b[:]) }

// times is an element, so often.
func times(n scalar.Scalar, element string) string {
	e, errno := ristretto.Parse(api.Bytes([]byte(element)))
	if errno != api.OK {
		return ""
	}
	return str(e.Times(n).Bytes())
}

func base(n scalar.Scalar) string { return str(ristretto.Base().Times(n).Bytes()) }

// counted is a text behind its length.
func counted(s string) string {
	return string([]byte{byte(len(s) >> 8), byte(len(s))}) + s
}

func xored(a, b string) string {
	out := []byte(a)
	for i := range out {
		out[i] ^= b[i]
	}
	return string(out)
}

func reckoned(key, s string) string {
	h := stdhmac.New(sha512.New, []byte(key))
	h.Write([]byte(s))
	return string(h.Sum(nil))
}

func summed(s string) string {
	sum := sha512.Sum512([]byte(s))
	return string(sum[:])
}

func expanded(t *testing.T, prk, info string, n int) string {
	t.Helper()
	out, err := hkdf.Expand(sha512.New, []byte(prk), info, n)
	if err != nil {
		t.Fatal(err)
	}
	return string(out)
}

func labelled(t *testing.T, secret, label, context string) string {
	t.Helper()
	label = "OPAQUE-" + label
	info := "\x00\x40" + string([]byte{byte(len(label))}) + label + string([]byte{byte(len(context))}) + context
	return expanded(t, secret, info, 64)
}

// hardened is a password by a key of the function and by rounds.
func hardened(t *testing.T, key scalar.Scalar, password string, rounds int) string {
	t.Helper()
	out, e := oprf.Whole(key, password)
	if e != api.OK {
		t.Fatal(e)
	}
	stretched := out
	for i := range rounds {
		stretched = reckoned(stretched, string(binary.BigEndian.AppendUint32(nil, uint32(i))))
	}
	return reckoned("", out+stretched)
}

// server is one with an account.
type server struct {
	setting       client.Setting
	key, own, eph scalar.Scalar
	public        string
	stored        envelope.Opened
	masking       string
}

// newServer has an account that registered with a password; public stands for its key's element, where it isn't empty.
func newServer(t *testing.T, s client.Setting, password, public string) server {
	t.Helper()
	v := server{setting: s, key: scalar.Of(5), own: scalar.Of(7).Invert(), eph: scalar.Of(11).Neg(), public: public}
	if public == "" {
		v.public = base(v.own)
	}
	hard := hardened(t, v.key, password, s.Rounds)
	stored, e := envelope.Store(hard, text(32), api.Bytes([]byte(v.public)), s.Server, s.Client)
	if e != api.OK {
		t.Fatal(e)
	}
	v.stored, v.masking = stored, expanded(t, hard, "MaskingKey", 64)
	return v
}

// answer is the second message of a login, and what the client should come to by it.
func (v server) answer(t *testing.T, m wire.KE1) (wire.KE2, client.Done) {
	t.Helper()
	nonce, share := text(44)[12:], base(v.eph)
	mask := text(66)[34:]
	pad := expanded(t, v.masking, mask+"CredentialResponsePad", 128)
	out := wire.KE2{
		Evaluated: times(v.key, m.Blinded),
		MaskNonce: mask,
		Masked:    xored(v.public+v.stored.Envelope, pad),
		Nonce:     nonce,
		Share:     share,
	}
	return v.signed(t, m, out)
}

// signed is a message with the MAC that it should have.
func (v server) signed(t *testing.T, m wire.KE1, out wire.KE2) (wire.KE2, client.Done) {
	t.Helper()
	clientID, serverID := v.setting.Client, v.setting.Server
	if clientID == "" {
		clientID = str(v.stored.Public)
	}
	if serverID == "" {
		serverID = v.public
	}
	secret := times(v.eph, m.Share) + times(v.own, m.Share) + times(v.eph, str(v.stored.Public))
	said := "OPAQUEv1-" + counted(v.setting.Context) + counted(clientID) + m.Blinded + m.Nonce + m.Share +
		counted(serverID) + out.Evaluated + out.MaskNonce + out.Masked + out.Nonce + out.Share
	key := reckoned("", secret)
	hand := labelled(t, key, "HandshakeSecret", summed(said))
	out.MAC = reckoned(labelled(t, hand, "ServerMAC", ""), summed(said))
	return out, client.Done{
		KE3:     wire.KE3{MAC: reckoned(labelled(t, hand, "ClientMAC", ""), summed(said+out.MAC))},
		Session: labelled(t, key, "SessionKey", summed(said)),
		Export:  v.stored.Export,
	}
}
