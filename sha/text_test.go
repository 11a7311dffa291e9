package sha_test

import (
	"encoding/hex"
	"strings"
	"testing"

	"opaline/sha"
)

func TestHex(t *testing.T) {
	for c := range 256 {
		s := string([]byte{byte(c)})
		if got := sha.Hex(s); got != hex.EncodeToString([]byte(s)) {
			t.Errorf("Hex(%q): %s", s, got)
		}
	}
	for s, want := range map[string]string{"": "", "\x00\xff": "00ff", "\xab\xcd\xef": "abcdef", "é": "c3a9"} {
		if got := sha.Hex(s); got != want {
			t.Errorf("Hex(%q): %s", s, got)
		}
	}
}

func TestParseComesBack(t *testing.T) {
	for n := range 300 {
		s := text(n)
		if got, ok := sha.Parse(sha.Hex(s)); !ok || got != s {
			t.Errorf("Parse of %d bytes: %q, %v", n, got, ok)
		}
	}
	if got, ok := sha.Parse(""); !ok || got != "" {
		t.Errorf("Parse of nothing: %q, %v", got, ok)
	}
}

// TestParsePairs goes over all texts of two bytes: just 256 of them are a byte's Hex.
func TestParsePairs(t *testing.T) {
	count := 0
	for a := range 256 {
		for b := range 256 {
			s := string([]byte{byte(a), byte(b)})
			got, ok := sha.Parse(s)
			if ok && sha.Hex(got) != s || !ok && got != "" {
				t.Errorf("Parse(%q): %q, %v", s, got, ok)
			}
			if ok {
				count++
			}
		}
	}
	if count != 256 {
		t.Errorf("%d texts of two bytes", count)
	}
}

func TestParseOthers(t *testing.T) {
	for _, s := range []string{
		"0", "a", "000", "00f", "0A", "A0", "FF", "00FF", "fg", "gf", "0x", " 00", "00 ", "0 0", "0/", ":0", "`0", "0@",
		"\x00\x00", "00\xff\xff", "é", strings.Repeat("00", 1000) + "0", strings.Repeat("00", 1000) + "0g",
	} {
		if got, ok := sha.Parse(s); ok || got != "" {
			t.Errorf("Parse(%q): %q, %v", s, got, ok)
		}
	}
}

func TestCounted(t *testing.T) {
	if got := sha.Counted(); got != "" {
		t.Errorf("Counted of no parts: %q", got)
	}
	if got := sha.Counted("ab", "", "\x00\xff?"); got != "\x00\x02ab\x00\x00\x00\x03\x00\xff?" {
		t.Errorf("Counted: %q", got)
	}
	for n, front := range map[int]string{
		255: "\x00\xff", 256: "\x01\x00", 258: "\x01\x02", 65535: "\xff\xff",
		65536: "\x00\x00", 65537: "\x00\x01", 131072 + 513: "\x02\x01",
	} {
		s := text(n)
		if got := sha.Counted(s, "z"); got != front+s+"\x00\x01z" {
			t.Errorf("Counted of %d bytes", n)
		}
	}
}

func TestCutsCount(t *testing.T) {
	cuts := [][]string{{"abc"}, {"a", "bc"}, {"ab", "c"}, {"a", "b", "c"}, {"", "abc"}, {"abc", ""}, {"", "a", "bc"}}
	for i, x := range cuts {
		for j, y := range cuts {
			if (sha.Counted(x...) == sha.Counted(y...)) != (i == j) {
				t.Errorf("Counted of %q and of %q", x, y)
			}
			if sha.Sum(x...) != sha.Sum(y...) {
				t.Errorf("Sum of %q and of %q", x, y)
			}
		}
	}
}
