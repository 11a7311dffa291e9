package envelope_test

import (
	"encoding/hex"
	"testing"

	"opaline/api"
	"opaline/envelope"
	"opaline/oprf"
	"opaline/ristretto"
	"opaline/scalar"
)

func unhex(t *testing.T, s string) string {
	t.Helper()
	b, err := hex.DecodeString(s)
	if err != nil {
		t.Fatal(err)
	}
	return string(b)
}

func bytesOf(t *testing.T, s string) api.Bytes {
	t.Helper()
	return api.Bytes([]byte(unhex(t, s)))
}

// published is a vector of RFC 9807, C.1, as far as this layer knows of it; there passwords aren't stretched.
type published struct {
	name, password, oprfKey, nonce, server, serverID, clientID string
	randomized, public, masking, export, envelope              string
}

// vectors are C.1.1, without identities, and C.1.2, with them.
var vectors = []published{
	{
		name:       "C.1.1",
		password:   "436f7272656374486f72736542617474657279537461706c65",
		oprfKey:    "5d4c6a8b7c7138182afb4345d1fae6a9f18a1744afbcc3854f8f5a2b4b4c6d05",
		nonce:      "ac13171b2f17bc2c74997f0fce1e1f35bec6b91fe2e12dbd323d23ba7a38dfec",
		server:     "b2fe7af9f48cc502d016729d2fe25cdd433f2c4bc904660b2a382c9b79df1a78",
		randomized: "aac48c25ab036e30750839d31d6e73007344cb1155289fb7d329beb932e9adeea73d5d5c22a0ce1952f8aba6d66007615cd1698d4ac85ef1fcf150031d1435d9",
		public:     "76a845464c68a5d2f7e442436bb1424953b17d3e2e289ccbaccafb57ac5c3675",
		masking:    "1ac5844383c7708077dea41cbefe2fa15724f449e535dd7dd562e66f5ecfb95864eadddec9db5874959905117dad40a4524111849799281fefe3c51fa82785c5",
		export:     "1ef15b4fa99e8a852412450ab78713aad30d21fa6966c9b8c9fb3262a970dc62950d4dd4ed62598229b1b72794fc0335199d9f7fcc6eaedde92cc04870e63f16",
		envelope:   "ac13171b2f17bc2c74997f0fce1e1f35bec6b91fe2e12dbd323d23ba7a38dfec634b0f5b96109c198a8027da51854c35bee90d1e1c781806d07d49b76de6a28b8d9e9b6c93b9f8b64d16dddd9c5bfb5fea48ee8fd2f75012a8b308605cdd8ba5",
	},
	{
		name:       "C.1.2",
		password:   "436f7272656374486f72736542617474657279537461706c65",
		oprfKey:    "5d4c6a8b7c7138182afb4345d1fae6a9f18a1744afbcc3854f8f5a2b4b4c6d05",
		nonce:      "ac13171b2f17bc2c74997f0fce1e1f35bec6b91fe2e12dbd323d23ba7a38dfec",
		server:     "b2fe7af9f48cc502d016729d2fe25cdd433f2c4bc904660b2a382c9b79df1a78",
		serverID:   "bob",
		clientID:   "alice",
		randomized: "aac48c25ab036e30750839d31d6e73007344cb1155289fb7d329beb932e9adeea73d5d5c22a0ce1952f8aba6d66007615cd1698d4ac85ef1fcf150031d1435d9",
		public:     "76a845464c68a5d2f7e442436bb1424953b17d3e2e289ccbaccafb57ac5c3675",
		masking:    "1ac5844383c7708077dea41cbefe2fa15724f449e535dd7dd562e66f5ecfb95864eadddec9db5874959905117dad40a4524111849799281fefe3c51fa82785c5",
		export:     "1ef15b4fa99e8a852412450ab78713aad30d21fa6966c9b8c9fb3262a970dc62950d4dd4ed62598229b1b72794fc0335199d9f7fcc6eaedde92cc04870e63f16",
		envelope:   "ac13171b2f17bc2c74997f0fce1e1f35bec6b91fe2e12dbd323d23ba7a38dfec1ac902dc5589e9a5f0de56ad685ea8486210ef41449cd4d8712828913c5d2b680b2b3af4a26c765cff329bfb66d38ecf1d6cfa9e7a73c222c6efe0d9520f7d7c",
	},
}

func TestPublished(t *testing.T) {
	for _, v := range vectors {
		key, e := scalar.Parse(bytesOf(t, v.oprfKey))
		if e != api.OK {
			t.Fatal(e)
		}
		out, e := oprf.Whole(key, unhex(t, v.password))
		if e != api.OK {
			t.Fatal(e)
		}
		password := envelope.Password(out, 0)
		if password != unhex(t, v.randomized) {
			t.Errorf("%s: Password: %x", v.name, password)
		}
		if got := envelope.Masking(password); got != unhex(t, v.masking) {
			t.Errorf("%s: Masking: %x", v.name, got)
		}
		server := bytesOf(t, v.server)
		got, e := envelope.Store(password, unhex(t, v.nonce), server, v.serverID, v.clientID)
		if e != api.OK || got.Public != bytesOf(t, v.public) || got.Export != unhex(t, v.export) || got.Envelope != unhex(t, v.envelope) {
			t.Errorf("%s: Store: %x, %x, %x, %v", v.name, got.Public, got.Export, got.Envelope, e)
		}
		if ristretto.Base().Times(got.Secret).Bytes() != got.Public {
			t.Errorf("%s: the keys are no pair", v.name)
		}
		if again, e := envelope.Recover(password, unhex(t, v.envelope), server, v.serverID, v.clientID); e != api.OK || again != got {
			t.Errorf("%s: Recover: %v", v.name, e)
		}
	}
}

func TestMaskPublished(t *testing.T) {
	v := vectors[0]
	nonce := "38fe59af0df2c79f57b8780278f5ae47355fe1f817119041951c80f612fdfc6d"
	want := "d6ec60bcdb26dc455ddf3e718f1020490c192d70dfc7e403981179d8073d1146a4f9aa1ced4e4cd984c657eb3b54ced3848326f70331953d91b02535af44d9fedc80188ca46743c52786e0382f95ad85c08f6afcd1ccfbff95e2bdeb015b166c6b20b92f832cc6df01e0b86a7efd92c1c804ff865781fa93f2f20b446c8371b6"
	if got := envelope.Mask(unhex(t, v.masking), unhex(t, nonce), unhex(t, v.server+v.envelope)); got != unhex(t, want) {
		t.Errorf("Mask: %x", got)
	}
}
