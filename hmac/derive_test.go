package hmac_test

import (
	"crypto/hkdf"
	"crypto/sha512"
	"math"
	"strings"
	"testing"

	"opaline/api"
	"opaline/hmac"
)

const most = 255 * 64

// expanded is HKDF-Expand, by the library.
func expanded(t *testing.T, prk, info string, n int) string {
	t.Helper()
	out, err := hkdf.Expand(sha512.New, []byte(prk), info, n)
	if err != nil {
		t.Fatal(err)
	}
	return string(out)
}

func TestExtract(t *testing.T) {
	for _, salt := range []string{"", "salt", strings.Repeat("\x00", 64), text(128), text(129)} {
		for _, s := range []string{"", "secret", text(64), text(500)} {
			want, err := hkdf.Extract(sha512.New, []byte(s), []byte(salt))
			if err != nil {
				t.Fatal(err)
			}
			if got := hmac.Extract(salt, s[:len(s)/2], "", s[len(s)/2:]); got != string(want) || len(got) != 64 {
				t.Errorf("Extract by %d bytes, of %d: %x", len(salt), len(s), got)
			}
		}
	}
	if hmac.Extract("salt") != hmac.Sum("salt") || hmac.Extract("a", "b") == hmac.Extract("b", "a") {
		t.Error("Extract: the salt is the key")
	}
}

func TestExpand(t *testing.T) {
	for _, prk := range []string{"", "k", text(64), text(128), text(200)} {
		for _, info := range []string{"", "i", text(64), text(300)} {
			for _, n := range []int{0, 1, 32, 63, 64, 65, 127, 128, 129, 1000, most - 64, most - 63, most - 1, most} {
				got, e := hmac.Expand(prk, info, n)
				if e != api.OK || got != expanded(t, prk, info, n) {
					t.Errorf("Expand of %d and %d bytes, to %d: %v", len(prk), len(info), n, e)
				}
			}
		}
	}
}

// TestExpandByHand follows RFC 5869's words, so that it doesn't hang on the library alone.
func TestExpandByHand(t *testing.T) {
	one := reckoned("k", "i\x01")
	two := reckoned("k", one+"i\x02")
	three := reckoned("k", two+"i\x03")
	if got, e := hmac.Expand("k", "i", 150); e != api.OK || got != (one + two + three)[:150] {
		t.Errorf("Expand: %x, %v", got, e)
	}
}

func TestExpandWrong(t *testing.T) {
	for n, want := range map[int]api.Errno{
		most + 1: api.ErrLong, most + 64: api.ErrLong, 1 << 16: api.ErrLong, 1 << 32: api.ErrLong, math.MaxInt: api.ErrLong,
		-1: api.ErrArg, -64: api.ErrArg, -1 << 32: api.ErrArg, math.MinInt: api.ErrArg,
	} {
		if got, e := hmac.Expand("k", "i", n); e != want || got != "" {
			t.Errorf("Expand to %d: %x, %v", n, got, e)
		}
	}
}

// TestExpandBegins: of fewer bytes it is a beginning of what it is of more.
func TestExpandBegins(t *testing.T) {
	all, e := hmac.Expand("k", "i", most)
	if e != api.OK || len(all) != most {
		t.Fatalf("Expand: %d bytes, %v", len(all), e)
	}
	for n := range 400 {
		if got, e := hmac.Expand("k", "i", n); e != api.OK || got != all[:n] {
			t.Errorf("Expand to %d: %v", n, e)
		}
	}
	for n := most - 130; n <= most; n += 13 {
		if got, e := hmac.Expand("k", "i", n); e != api.OK || got != all[:n] {
			t.Errorf("Expand to %d: %v", n, e)
		}
	}
}

func TestLabel(t *testing.T) {
	// 7 bytes and 6 are 13; 300 is 1 and 44.
	info := "\x01\x2c" + "\x0dOPAQUE-Server" + "\x04abcd"
	if got, e := hmac.Label("k", "Server", "abcd", 300); e != api.OK || got != expanded(t, "k", info, 300) {
		t.Errorf("Label: %x, %v", got, e)
	}
	if got, e := hmac.Label("k", "", "", 64); e != api.OK || got != expanded(t, "k", "\x00\x40\x07OPAQUE-\x00", 64) {
		t.Errorf("Label of nothing: %x, %v", got, e)
	}
	if got, e := hmac.Label("k", "a", "b", 0); e != api.OK || got != "" {
		t.Errorf("Label of no bytes: %x, %v", got, e)
	}
	if got, e := hmac.Label("k", "a", "b", most); e != api.OK || got != expanded(t, "k", "\x3f\xc0\x08OPAQUE-a\x01b", most) {
		t.Errorf("Label of the most bytes: %d, %v", len(got), e)
	}
	info = "\x00\x20\xffOPAQUE-" + text(248) + "\xff" + text(255)
	if got, e := hmac.Label("k", text(248), text(255), 32); e != api.OK || got != expanded(t, "k", info, 32) {
		t.Errorf("Label of the longest: %x, %v", got, e)
	}
}

// TestLabelParts: neither how long the answer is, nor where the label ends, is the same to it.
func TestLabelParts(t *testing.T) {
	a, _ := hmac.Label("k", "ab", "c", 32)
	b, _ := hmac.Label("k", "a", "bc", 32)
	c, _ := hmac.Label("k", "ab", "c", 33)
	if a == b || a == c[:32] {
		t.Error("Label of other things is the same")
	}
}

func TestLabelWrong(t *testing.T) {
	for _, c := range []struct {
		label, context string
		n              int
		want           api.Errno
	}{
		{text(249), "", 64, api.ErrLong},
		{text(255), "", 64, api.ErrLong},
		{text(256), "", 64, api.ErrLong},
		{text(1000), "", 64, api.ErrLong},
		{"", text(256), 64, api.ErrLong},
		{"", text(70000), 64, api.ErrLong},
		{text(249), text(256), 64, api.ErrLong},
		{text(249), "", 0, api.ErrLong},
		// The label's error is named ahead of Expand's.
		{text(249), "", -1, api.ErrLong},
		{"", text(256), math.MinInt, api.ErrLong},
		{"l", "c", most + 1, api.ErrLong},
		{"l", "c", 1<<16 + 64, api.ErrLong},
		{"l", "c", math.MaxInt, api.ErrLong},
		{"l", "c", -1, api.ErrArg},
		{text(248), text(255), -64, api.ErrArg},
		{"l", "c", math.MinInt, api.ErrArg},
	} {
		if got, e := hmac.Label("k", c.label, c.context, c.n); e != c.want || got != "" {
			t.Errorf("Label of %d and %d bytes, to %d: %x, %v", len(c.label), len(c.context), c.n, got, e)
		}
	}
}

func TestSecret(t *testing.T) {
	for _, label := range []string{"", "SessionKey", text(248)} {
		for _, hash := range []string{"", text(64), text(255)} {
			want, e := hmac.Label("k", label, hash, 64)
			if got := hmac.Secret("k", label, hash); e != api.OK || got != want || len(got) != 64 {
				t.Errorf("Secret of %d and %d bytes: %x", len(label), len(hash), got)
			}
		}
	}
	if got := hmac.Secret("k", "l", "h"); got != expanded(t, "k", "\x00\x40\x08OPAQUE-l\x01h", 64) {
		t.Errorf("Secret: %x", got)
	}
}

func TestSecretWrong(t *testing.T) {
	if got := hmac.Secret("k", text(249), "h"); got != "" {
		t.Errorf("Secret of a long label: %x", got)
	}
	if got := hmac.Secret("k", "l", text(256)); got != "" {
		t.Errorf("Secret of a long hash: %x", got)
	}
}
