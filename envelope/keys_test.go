package envelope_test

import (
	"crypto/hkdf"
	stdhmac "crypto/hmac"
	"crypto/sha512"
	"encoding/binary"
	"math"
	"strings"
	"testing"

	"opaline/api"
	"opaline/envelope"
	"opaline/oprf"
	"opaline/ristretto"
	"opaline/scalar"
)

const mostMask = 255 * 64

// text is n bytes, of which neighbours are unlike.
func text(n int) string {
	out := make([]byte, n)
	for i := range out {
		out[i] = byte(i*7 + i>>8 + 3)
	}
	return string(out)
}

// reckoned is the HMAC of a key and a text, by the library.
func reckoned(key, s string) string {
	h := stdhmac.New(sha512.New, []byte(key))
	h.Write([]byte(s))
	return string(h.Sum(nil))
}

// expanded is HKDF-Expand, by the library.
func expanded(t *testing.T, prk, info string, n int) string {
	t.Helper()
	out, err := hkdf.Expand(sha512.New, []byte(prk), info, n)
	if err != nil {
		t.Fatal(err)
	}
	return string(out)
}

func xored(a, b string) string {
	out := []byte(a)
	for i := range out {
		out[i] ^= b[i]
	}
	return string(out)
}

func stretched(s string, rounds int) string {
	for i := range rounds {
		s = reckoned(s, string(binary.BigEndian.AppendUint32(nil, uint32(i))))
	}
	return s
}

func TestPassword(t *testing.T) {
	for _, s := range []string{"", "x", text(64), text(128), text(300)} {
		for _, rounds := range []int{0, 1, 2, 10, 300} {
			if got := envelope.Password(s, rounds); got != reckoned("", s+stretched(s, rounds)) {
				t.Errorf("Password of %d bytes, of %d rounds: %x", len(s), rounds, got)
			}
		}
	}
}

// TestPasswordNone: rounds below 1 stretch nothing, and the text stands there twice.
func TestPasswordNone(t *testing.T) {
	for _, rounds := range []int{0, -1, -300, math.MinInt} {
		if got := envelope.Password("text", rounds); got != reckoned("", "texttext") {
			t.Errorf("Password of %d rounds: %x", rounds, got)
		}
	}
}

func TestMasking(t *testing.T) {
	for _, s := range []string{"", "x", text(64), text(128), text(300)} {
		if got := envelope.Masking(s); got != expanded(t, s, "MaskingKey", 64) || len(got) != 64 {
			t.Errorf("Masking of %d bytes: %x", len(s), got)
		}
	}
}

func TestKeys(t *testing.T) {
	seeds := []string{strings.Repeat("\x00", 32), strings.Repeat("\xff", 32), text(32), text(64)[32:]}
	for _, seed := range seeds {
		want, element, e := oprf.Derive(seed, "OPAQUE-DeriveDiffieHellmanKeyPair")
		if e != api.OK {
			t.Fatal(e)
		}
		secret, public, e := envelope.Keys(seed)
		if e != api.OK || secret != want || public != element.Bytes() || public != ristretto.Base().Times(secret).Bytes() {
			t.Errorf("Keys of %x: %x, %x, %v", seed, secret.Bytes(), public, e)
		}
	}
}

// TestKeysPublished: RFC 9807's shares of a login, C.1.1, and the seeds that they are of.
func TestKeysPublished(t *testing.T) {
	for seed, want := range map[string]string{
		"82850a697b42a505f5b68fcdafce8c31f0af2b581f063cf1091933541936304b": "6e29bee50701498605b2c085d7b241ca15ba5c32027dd21ba420b94ce60da326",
		"05a4f54206eef1ba2f615bc0aa285cb22f26d1153b5b40a1e85ff80da12f982f": "c4f62198a9d6fa9170c42c3c71f1971b29eb1d5d0bd733e40816c91f7912cc4a",
	} {
		if _, got, e := envelope.Keys(unhex(t, seed)); e != api.OK || got != bytesOf(t, want) {
			t.Errorf("Keys of %s: %x, %v", seed, got, e)
		}
	}
}

func TestKeysWrong(t *testing.T) {
	for _, n := range []int{0, 1, 31, 33, 64, 1000} {
		secret, public, e := envelope.Keys(text(n))
		if e != api.ErrForm || secret != (scalar.Scalar{}) || public != (api.Bytes{}) {
			t.Errorf("Keys of %d bytes: %x, %x, %v", n, secret.Bytes(), public, e)
		}
	}
}

func TestMask(t *testing.T) {
	for _, masking := range []string{"", "m", text(64), text(200)} {
		for _, nonce := range []string{"", "n", text(32), text(100)} {
			for _, n := range []int{0, 1, 32, 63, 64, 65, 128, 1000} {
				pad := expanded(t, masking, nonce+"CredentialResponsePad", n)
				got := envelope.Mask(masking, nonce, text(n))
				if got != xored(text(n), pad) {
					t.Errorf("Mask by %d and %d bytes, of %d: %x", len(masking), len(nonce), n, got)
				}
				if back := envelope.Mask(masking, nonce, got); back != text(n) {
					t.Errorf("Mask by %d and %d bytes, shown again: %x", len(masking), len(nonce), back)
				}
			}
		}
	}
}

// TestMaskLong: behind 255 times 64 bytes a text is cut off.
func TestMaskLong(t *testing.T) {
	pad := expanded(t, "m", text(32)+"CredentialResponsePad", mostMask)
	for _, n := range []int{mostMask - 64, mostMask - 1, mostMask, mostMask + 1, mostMask + 64, 1 << 16, 1 << 20} {
		kept := min(n, mostMask)
		if got := envelope.Mask("m", text(32), text(n)); got != xored(text(n)[:kept], pad) {
			t.Errorf("Mask of %d bytes: %d", n, len(got))
		}
	}
}
