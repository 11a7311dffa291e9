package server_test

import (
	"crypto/hkdf"
	stdhmac "crypto/hmac"
	"crypto/sha512"
	"encoding/hex"
	"testing"

	"opaline/api"
	"opaline/ristretto"
	"opaline/scalar"
	"opaline/server"
	"opaline/wire"
)

// What a server answers is told here by RFC 9807's words, with the library's HMAC and HKDF.

// text is n bytes, of which neighbours are unlike.
func text(n int) string {
	out := make([]byte, n)
	for i := range out {
		out[i] = byte(i*7 + i>>8 + 3)
	}
	return string(out)
}

// draw is 32 bytes, others for each number.
func draw(n int) string { return text(n + 32)[n:] }

func str(b api.Bytes) string { return string(b[:]) }

func unhex(t *testing.T, s string) string {
	t.Helper()
	b, err := hex.DecodeString(s)
	if err != nil {
		t.Fatal(err)
	}
	return string(b)
}

func bytesOf(t *testing.T, s string) api.Bytes {
	t.Helper()
	return api.Bytes([]byte(unhex(t, s)))
}

func scalarOf(t *testing.T, s string) scalar.Scalar {
	t.Helper()
	out, e := scalar.Parse(bytesOf(t, s))
	if e != api.OK {
		t.Fatal(e)
	}
	return out
}

// times is an element, so often.
func times(t *testing.T, n scalar.Scalar, element string) string {
	t.Helper()
	e, errno := ristretto.Parse(api.Bytes([]byte(element)))
	if errno != api.OK {
		t.Fatal(errno)
	}
	return str(e.Times(n).Bytes())
}

func base(n scalar.Scalar) string { return str(ristretto.Base().Times(n).Bytes()) }

// counted is a text behind its length.
func counted(s string) string {
	return string([]byte{byte(len(s) >> 8), byte(len(s))}) + s
}

func xored(a, b string) string {
	out := []byte(a)
	for i := range out {
		out[i] ^= b[i]
	}
	return string(out)
}

func reckoned(key, s string) string {
	h := stdhmac.New(sha512.New, []byte(key))
	h.Write([]byte(s))
	return string(h.Sum(nil))
}

func summed(s string) string {
	sum := sha512.Sum512([]byte(s))
	return string(sum[:])
}

func expanded(t *testing.T, prk, info string, n int) string {
	t.Helper()
	out, err := hkdf.Expand(sha512.New, []byte(prk), info, n)
	if err != nil {
		t.Fatal(err)
	}
	return string(out)
}

func labelled(t *testing.T, secret, label, context string) string {
	t.Helper()
	label = "OPAQUE-" + label
	info := "\x00\x40" + string([]byte{byte(len(label))}) + label + string([]byte{byte(len(context))}) + context
	return expanded(t, secret, info, 64)
}

// answerOf is what Answer should answer; eph is the draws' seed's number.
func answerOf(t *testing.T, s server.Setting, key, eph scalar.Scalar, r wire.Record, m wire.KE1, d server.Draws) (server.Waiting, wire.KE2) {
	t.Helper()
	pad := expanded(t, r.Masking, d.MaskNonce+"CredentialResponsePad", 128)
	out := wire.KE2{
		Evaluated: times(t, key, m.Blinded),
		MaskNonce: d.MaskNonce,
		Masked:    xored(str(s.Public)+r.Envelope, pad),
		Nonce:     d.Nonce,
		Share:     base(eph),
	}
	clientID, serverID := s.Client, s.Server
	if clientID == "" {
		clientID = r.Public
	}
	if serverID == "" {
		serverID = str(s.Public)
	}
	common := times(t, eph, m.Share) + times(t, s.Own, m.Share) + times(t, eph, r.Public)
	said := "OPAQUEv1-" + counted(s.Context) + counted(clientID) + m.Blinded + m.Nonce + m.Share +
		counted(serverID) + out.Evaluated + out.MaskNonce + out.Masked + out.Nonce + out.Share
	first := reckoned("", common)
	hand := labelled(t, first, "HandshakeSecret", summed(said))
	out.MAC = reckoned(labelled(t, hand, "ServerMAC", ""), summed(said))
	return server.Waiting{
		Session:   labelled(t, first, "SessionKey", summed(said)),
		ClientMAC: reckoned(labelled(t, hand, "ClientMAC", ""), summed(said+out.MAC)),
	}, out
}
