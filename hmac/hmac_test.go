package hmac_test

import (
	stdhmac "crypto/hmac"
	"crypto/sha512"
	"encoding/binary"
	"math"
	"slices"
	"strings"
	"testing"

	"opaline/hmac"
	"opaline/sha"
)

// text is n bytes, of which neighbours are unlike.
func text(n int) string {
	out := make([]byte, n)
	for i := range out {
		out[i] = byte(i*7 + i>>8 + 3)
	}
	return string(out)
}

// reckoned is the HMAC of a key and a text, by the library.
func reckoned(key, s string) string {
	h := stdhmac.New(sha512.New, []byte(key))
	h.Write([]byte(s))
	return string(h.Sum(nil))
}

// TestSumPublished: the vectors of RFC 4231.
func TestSumPublished(t *testing.T) {
	count := ""
	for i := range 25 {
		count += string([]byte{byte(i + 1)})
	}
	for _, c := range []struct{ key, s, want string }{
		{strings.Repeat("\x0b", 20), "Hi There",
			"87aa7cdea5ef619d4ff0b4241a1d6cb02379f4e2ce4ec2787ad0b30545e17cdedaa833b7d6b8a702038b274eaea3f4e4be9d914eeb61f1702e696c203a126854"},
		{"Jefe", "what do ya want for nothing?",
			"164b7a7bfcf819e2e395fbe73b56e0a387bd64222e831fd610270cd7ea2505549758bf75c05a994a6d034f65f8f0e6fdcaeab1a34d4a6b4b636e070a38bce737"},
		{strings.Repeat("\xaa", 20), strings.Repeat("\xdd", 50),
			"fa73b0089d56a284efb0f0756c890be9b1b5dbdd8ee81a3655f83e33b2279d39bf3e848279a722c806b485a47e67c807b946a337bee8942674278859e13292fb"},
		{count, strings.Repeat("\xcd", 50),
			"b0ba465637458c6990e5a8c5f61d4af7e576d97ff94b872de76f8050361ee3dba91ca5c11aa25eb4d679275cc5788063a5f19741120c4f2de2adebeb10a298dd"},
		{strings.Repeat("\xaa", 131), "Test Using Larger Than Block-Size Key - Hash Key First",
			"80b24263c7c1a3ebb71493c1dd7be8b49b46d1f41b4aeec1121b013783f8f3526b56d037e05f2598bd0fd2215d6a1e5295e64f73f63f0aec8b915a985d786598"},
	} {
		if got := sha.Hex(hmac.Sum(c.key, c.s)); got != c.want {
			t.Errorf("Sum of %q: %s", c.s, got)
		}
	}
}

// TestSumLengths goes over the keys' lengths at which they fill a block, or are summed first, and over the texts'.
func TestSumLengths(t *testing.T) {
	for _, k := range []int{0, 1, 63, 64, 65, 127, 128, 129, 130, 255, 256, 257, 1000} {
		for _, n := range []int{0, 1, 63, 64, 110, 111, 112, 113, 127, 128, 129, 300} {
			if got := hmac.Sum(text(k), text(n)); got != reckoned(text(k), text(n)) {
				t.Errorf("Sum of a key of %d bytes, of %d: %x", k, n, got)
			}
		}
	}
	if got := hmac.Sum(""); got != reckoned("", "") || len(got) != 64 {
		t.Errorf("Sum of no parts: %x", got)
	}
}

func TestSumParts(t *testing.T) {
	s := text(200)
	want := reckoned("k", s)
	for i := range len(s) + 1 {
		if hmac.Sum("k", s[:i], s[i:]) != want || hmac.Sum("k", "", s[:i/2], s[i/2:i], "", s[i:]) != want {
			t.Errorf("Sum, cut at %d", i)
		}
	}
	if hmac.Sum("k", strings.Split(s, "")...) != want {
		t.Error("Sum, one by one")
	}
}

func TestWith(t *testing.T) {
	keys := []string{"", "k", text(64), text(128), text(129), text(500)}
	var macs []hmac.Mac
	for _, key := range keys {
		macs = append(macs, hmac.With(key))
	}
	// Twice, and all of them side by side: none has a memory, nor another one's key.
	for range 2 {
		for i, mac := range macs {
			if mac() != reckoned(keys[i], "") || mac("abc") != reckoned(keys[i], "abc") || mac("a", "", "bc") != hmac.Sum(keys[i], "abc") {
				t.Errorf("With of a key of %d bytes", len(keys[i]))
			}
		}
	}
}

func TestSame(t *testing.T) {
	texts := []string{"", "\x00", "\x00\x00", "a", "b", "A", "aa", "ab", "ba", "a\x00", "\x00a", "\xff", "\x7f", "\x80", text(64), text(65), text(63) + "!", "!" + text(64)[1:]}
	for i, a := range texts {
		for j, b := range texts {
			if hmac.Same(a, b) != (i == j) {
				t.Errorf("Same(%q, %q)", a, b)
			}
		}
	}
}

// TestSameBits turns each bit of a text, one by one.
func TestSameBits(t *testing.T) {
	for i := range 64 * 8 {
		turned := []byte(text(64))
		turned[i/8] ^= 1 << (i % 8)
		if hmac.Same(text(64), string(turned)) || hmac.Same(string(turned), text(64)) {
			t.Errorf("Same, with the bit %d turned", i)
		}
	}
	// Unlike bytes that would come to nothing, were they put together by exclusive or, or by a sum.
	if hmac.Same("ab", "ba") || hmac.Same("aa", "bb") || hmac.Same("\x01\xff", "\x00\x00") {
		t.Error("Same of texts in which two bytes are unlike")
	}
}

func stretched(s string, rounds int) string {
	for i := range rounds {
		s = reckoned(s, string(binary.BigEndian.AppendUint32(nil, uint32(i))))
	}
	return s
}

func TestStretch(t *testing.T) {
	for _, s := range []string{"", "x", text(64), text(128), text(129), text(400)} {
		for _, rounds := range []int{1, 2, 3, 10, 255, 256, 257, 300} {
			if got := hmac.Stretch(s, rounds); got != stretched(s, rounds) {
				t.Errorf("Stretch of %d bytes, of %d rounds: %x", len(s), rounds, got)
			}
		}
	}
	if got := hmac.Stretch("x", 1); got != reckoned("x", "\x00\x00\x00\x00") {
		t.Errorf("Stretch of one round: %x", got)
	}
	// Past 2^16 the number's second byte counts.
	if got := hmac.Stretch("x", 1<<16+2); got != stretched("x", 1<<16+2) {
		t.Errorf("Stretch of many rounds: %x", got)
	}
}

func TestStretchNone(t *testing.T) {
	for _, rounds := range []int{0, -1, -1000, math.MinInt} {
		for _, s := range []string{"", "x", text(300)} {
			if got := hmac.Stretch(s, rounds); got != s {
				t.Errorf("Stretch of %d rounds: %x", rounds, got)
			}
		}
	}
}

// TestPartsStay hands in a list with spare room: neither it nor what lies behind it may be changed.
func TestPartsStay(t *testing.T) {
	room := []string{text(100), "b", text(200), "behind", "far behind"}
	before := slices.Clone(room)
	mac := hmac.With("k")
	want := reckoned("k", strings.Join(room[:3], ""))
	for range 2 {
		if hmac.Sum("k", room[:3]...) != want || hmac.Extract("k", room[:3]...) != want || mac(room[:3]...) != want {
			t.Error("another sum")
		}
	}
	if !slices.Equal(room, before) {
		t.Error("the parts were changed")
	}
}

// TestPartsNotKept changes a list behind a call: the Mac knows nothing of it.
func TestPartsNotKept(t *testing.T) {
	parts := []string{"a", "b"}
	mac := hmac.With("k")
	mac(parts...)
	parts[0] = "z"
	if mac("a", "b") != reckoned("k", "ab") || mac(parts...) != reckoned("k", "zb") {
		t.Error("a Mac kept its parts")
	}
}
