package xmd_test

import (
	"crypto/sha512"
	"encoding/hex"
	"math"
	"slices"
	"strings"
	"testing"

	"opaline/api"
	"opaline/xmd"
)

const most = 255 * 64

// text is n bytes, of which neighbours are unlike.
func text(n int) string {
	out := make([]byte, n)
	for i := range out {
		out[i] = byte(i*7 + i>>8 + 3)
	}
	return string(out)
}

// reckoned is the chapter's row, by the library's sums.
func reckoned(dst string, n int, s string) string {
	mark := append([]byte(dst), byte(len(dst)))
	all := append(make([]byte, 128), s...)
	all = append(all, byte(n/256), byte(n%256), 0)
	b0 := sha512.Sum512(append(all, mark...))
	block := sha512.Sum512(slices.Concat(b0[:], []byte{1}, mark))
	out := string(block[:])
	for i := 2; len(out) < n; i++ {
		mixed := make([]byte, 64)
		for j := range mixed {
			mixed[j] = b0[j] ^ block[j]
		}
		block = sha512.Sum512(slices.Concat(mixed, []byte{byte(i)}, mark))
		out += string(block[:])
	}
	return out[:n]
}

func TestMark(t *testing.T) {
	for n := 1; n < 256; n++ {
		if got, e := xmd.Mark(text(n)); e != api.OK || got != text(n)+string([]byte{byte(n)}) {
			t.Errorf("Mark of %d bytes: %x, %v", n, got, e)
		}
	}
	if got, e := xmd.Mark("\x00"); e != api.OK || got != "\x00\x01" {
		t.Errorf("Mark of a byte 0: %x, %v", got, e)
	}
}

func TestMarkWrong(t *testing.T) {
	for _, n := range []int{256, 257, 511, 512, 65536, 65537} {
		if got, e := xmd.Mark(text(n)); e != api.ErrLong || got != "" {
			t.Errorf("Mark of %d bytes: %x, %v", n, got, e)
		}
	}
	if got, e := xmd.Mark(""); e != api.ErrShort || got != "" {
		t.Errorf("Mark of nothing: %x, %v", got, e)
	}
}

func TestXor(t *testing.T) {
	for _, c := range [][3]string{
		{"", "", ""}, {"", "a", ""}, {"a", "", ""}, {"ab", "a", "\x00"}, {"a", "ab", "\x00"},
		{"\x0f\xf0", "\xff\xff", "\xf0\x0f"}, {"abc", "\x00\x00\x00", "abc"}, {"\x01\x02\x80", "\x03\x03\x80zz", "\x02\x01\x00"},
	} {
		if got := xmd.Xor(c[0], c[1]); got != c[2] {
			t.Errorf("Xor(%q, %q): %q", c[0], c[1], got)
		}
	}
	for a := range 256 {
		for b := range 256 {
			if got := xmd.Xor(string([]byte{byte(a)}), string([]byte{byte(b)})); got != string([]byte{byte(a ^ b)}) {
				t.Errorf("Xor of %d and %d: %q", a, b, got)
			}
		}
	}
	if s := text(1000); xmd.Xor(xmd.Xor(s, s[1:]), s[1:]) != s[:999] {
		t.Error("Xor twice")
	}
}

// TestExpandPublished: vectors of RFC 9380, K.3.
func TestExpandPublished(t *testing.T) {
	const dst = "QUUX-V01-CS02-with-expander-SHA512-256"
	for s, want := range map[string]string{
		"":                 "6b9a7312411d92f921c6f68ca0b6380730a1a4d982c507211a90964c394179ba",
		"abc":              "0da749f12fbe5483eb066a5f595055679b976e93abe9be6f0f6318bce7aca8dc",
		"abcdef0123456789": "087e45a86e2939ee8b91100af1583c4938e0f5fc6c9db4b107b83346bc967f58",
	} {
		if got, e := xmd.Expand(dst, 32, s); e != api.OK || hex.EncodeToString([]byte(got)) != want {
			t.Errorf("Expand of %q: %x, %v", s, got, e)
		}
	}
}

func TestExpand(t *testing.T) {
	for _, dst := range []string{"\x00", "mark", text(64), text(254), text(255)} {
		for _, s := range []string{"", "abc", text(128), text(1000)} {
			for _, n := range []int{1, 2, 32, 63, 64, 65, 127, 128, 129, 192, 255, 256, 257, 1000, most - 64, most - 63, most - 1, most} {
				got, e := xmd.Expand(dst, n, s)
				if e != api.OK || got != reckoned(dst, n, s) {
					t.Errorf("Expand of %d bytes by %d to %d: %v", len(s), len(dst), n, e)
				}
			}
		}
	}
	if got, e := xmd.Expand("mark", 64); e != api.OK || got != reckoned("mark", 64, "") {
		t.Errorf("Expand of no parts: %x, %v", got, e)
	}
}

func TestExpandWrong(t *testing.T) {
	for _, c := range []struct {
		dst  string
		n    int
		want api.Errno
	}{
		{"mark", 0, api.ErrArg},
		{"mark", -1, api.ErrArg},
		{"mark", math.MinInt, api.ErrArg},
		{"mark", most + 1, api.ErrArg},
		{"mark", 1<<16 + 64, api.ErrArg},
		{"mark", 1<<32 + 64, api.ErrArg},
		{"mark", math.MaxInt, api.ErrArg},
		{"", 1, api.ErrShort},
		{"", most, api.ErrShort},
		{text(256), 1, api.ErrLong},
		{text(65537), most, api.ErrLong},
		// The number's error is named ahead of the mark's.
		{"", 0, api.ErrArg},
		{"", most + 1, api.ErrArg},
		{text(256), -1, api.ErrArg},
		{text(256), most + 1, api.ErrArg},
	} {
		if got, e := xmd.Expand(c.dst, c.n, "abc"); e != c.want || got != "" {
			t.Errorf("Expand by %d bytes to %d: %x, %v", len(c.dst), c.n, got, e)
		}
	}
}

func TestExpandCuts(t *testing.T) {
	s := text(300)
	want, _ := xmd.Expand("mark", 100, s)
	for i := range len(s) + 1 {
		a, e := xmd.Expand("mark", 100, s[:i], s[i:])
		b, f := xmd.Expand("mark", 100, "", s[:i/2], s[i/2:i], "", s[i:])
		if e != api.OK || f != api.OK || a != want || b != want {
			t.Errorf("Expand, cut at %d", i)
		}
	}
	if got, _ := xmd.Expand("mark", 100, strings.Split(s, "")...); got != want {
		t.Error("Expand, one by one")
	}
}

// TestExpandTells: the mark and the number make a difference, even where the bytes put together would be the same.
func TestExpandTells(t *testing.T) {
	all := map[string]string{}
	add := func(what, dst string, n int, parts ...string) {
		got, e := xmd.Expand(dst, n, parts...)
		if e != api.OK || len(got) != n {
			t.Fatalf("Expand of %s: %d bytes, %v", what, len(got), e)
		}
		if other, there := all[got[:32]]; there {
			t.Errorf("%s is as %s", what, other)
		}
		all[got[:32]] = what
	}
	for n := 32; n < 400; n++ {
		add("another number", "mark", n, "abc")
	}
	add("the highest byte of a number", "mark", 64+256*10, "abc")
	add("a shorter mark", "mar", 64, "abc")
	add("a longer mark", "mark\x04", 64, "abc")
	add("a longer message", "mark", 64, "abcm")
	add("a mark that is cut elsewhere", "ark", 64, "abcm")
	add("no message", "mark", 64)
	add("a byte 0", "mark", 64, "\x00")
}

// TestPartsStay hands in a list with spare room: neither it nor what lies behind it may be changed.
func TestPartsStay(t *testing.T) {
	room := []string{text(100), "b", text(200), "behind", "far behind", "last", "of all"}
	before := slices.Clone(room)
	want := reckoned("mark", 200, strings.Join(room[:3], ""))
	for range 2 {
		if got, e := xmd.Expand("mark", 200, room[:3]...); e != api.OK || got != want {
			t.Errorf("another row: %v", e)
		}
	}
	if !slices.Equal(room, before) {
		t.Error("the parts were changed")
	}
}
