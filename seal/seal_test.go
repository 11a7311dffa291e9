package seal_test

import (
	"crypto/hkdf"
	stdhmac "crypto/hmac"
	"crypto/sha512"
	"encoding/binary"
	"math"
	"strings"
	"testing"

	"opaline/api"
	"opaline/seal"
)

const (
	maxNote = 65535
	maxText = 65536
)

// text is n bytes, of which neighbours are unlike.
func text(n int) string {
	out := make([]byte, n)
	for i := range out {
		out[i] = byte(i*7 + i>>8 + 3)
	}
	return string(out)
}

// reckoned is the HMAC of a key and a text, by the library.
func reckoned(key, s string) string {
	h := stdhmac.New(sha512.New, []byte(key))
	h.Write([]byte(s))
	return string(h.Sum(nil))
}

// keyOf is one of a key's two, by the library.
func keyOf(t *testing.T, key, label string) string {
	t.Helper()
	info := "\x00\x40" + string([]byte{byte(7 + len(label))}) + "OPAQUE-" + label + "\x00"
	out, err := hkdf.Expand(sha512.New, []byte(key), info, 64)
	if err != nil {
		t.Fatal(err)
	}
	return string(out)
}

// rowOf is a row's first n bytes, by the chapter's words.
func rowOf(t *testing.T, key, nonce string, n int) string {
	t.Helper()
	by := keyOf(t, key, "Encrypt")
	var out strings.Builder
	for i := uint32(0); out.Len() < n; i++ {
		out.WriteString(reckoned(by, nonce+string(binary.BigEndian.AppendUint32(nil, i))))
	}
	return out.String()[:max(n, 0)]
}

func counted(s string) string {
	return string(binary.BigEndian.AppendUint16(nil, uint16(len(s)))) + s
}

// sealedOf is a sealed text, by the chapter's words.
func sealedOf(t *testing.T, key, nonce, note, s string) string {
	t.Helper()
	hidden := []byte(rowOf(t, key, nonce, len(s)))
	for i := range hidden {
		hidden[i] ^= s[i]
	}
	sum := reckoned(keyOf(t, key, "Authenticate"), counted(note)+counted(nonce)+string(hidden))
	return nonce + string(hidden) + sum
}

// lengths are those of texts at which blocks begin and end, and the greatest.
var lengths = []int{0, 1, 2, 31, 32, 63, 64, 65, 127, 128, 129, 1000, maxText - 1, maxText}

func TestSealByHand(t *testing.T) {
	nonce := text(32)
	for _, key := range []string{"", "key", text(64), text(128), text(129), text(500)} {
		for _, note := range []string{"", "note", text(255), text(256)} {
			for _, n := range []int{0, 1, 63, 64, 65, 200} {
				want := sealedOf(t, key, nonce, note, text(n))
				if got, e := seal.Seal(key, nonce, note, text(n)); e != api.OK || got != want {
					t.Errorf("Seal by %d bytes, a note of %d, of %d: %x, %v", len(key), len(note), n, got, e)
				}
				if got, e := seal.Open(key, note, want); e != api.OK || got != text(n) {
					t.Errorf("Open by %d bytes, a note of %d, of %d: %x, %v", len(key), len(note), n, got, e)
				}
			}
		}
	}
}

// TestSealLengths: the longest texts and notes, too.
func TestSealLengths(t *testing.T) {
	nonce := strings.Repeat("\xff", 32)
	for _, n := range lengths {
		for _, note := range []string{"", text(maxNote)} {
			sealed, e := seal.Seal("k", nonce, note, text(n))
			if e != api.OK || sealed != sealedOf(t, "k", nonce, note, text(n)) {
				t.Errorf("Seal of %d bytes, with a note of %d: %v", n, len(note), e)
			}
			if len(sealed) != seal.Size(n) || len(sealed) != n+96 {
				t.Errorf("%d bytes have %d, sealed", n, len(sealed))
			}
			if got, e := seal.Open("k", note, sealed); e != api.OK || got != text(n) {
				t.Errorf("Open of %d bytes, with a note of %d: %v", n, len(note), e)
			}
		}
	}
}

func TestSealWrong(t *testing.T) {
	for _, c := range []struct {
		nonce, note, text int
		want              api.Errno
	}{
		{0, 4, 4, api.ErrForm},
		{1, 4, 4, api.ErrForm},
		{31, 4, 4, api.ErrForm},
		{33, 4, 4, api.ErrForm},
		{64, 4, 4, api.ErrForm},
		{32, maxNote + 1, 4, api.ErrLong},
		{32, maxNote + 33, 0, api.ErrLong},
		{32, 1 << 20, 4, api.ErrLong},
		{32, 4, maxText + 1, api.ErrLong},
		{32, 0, 1 << 20, api.ErrLong},
		{32, maxNote + 1, maxText + 1, api.ErrLong},
		// The nonce's error is named ahead of the others.
		{31, maxNote + 1, 4, api.ErrForm},
		{33, 4, maxText + 1, api.ErrForm},
		{0, maxNote + 1, maxText + 1, api.ErrForm},
	} {
		got, e := seal.Seal("k", text(c.nonce), text(c.note), text(c.text))
		if e != c.want || got != "" {
			t.Errorf("Seal with a nonce of %d, a note of %d, of %d: %d bytes, %v", c.nonce, c.note, c.text, len(got), e)
		}
	}
}

func TestRow(t *testing.T) {
	// Past 256 blocks the number's second byte counts, past 2^16 its third.
	for _, n := range []int{1, 2, 63, 64, 65, 127, 128, 129, 255, 300, 256 * 64, 256*64 + 1, 65537 * 64} {
		if got := seal.Row("k", text(32), n); got != rowOf(t, "k", text(32), n) {
			t.Errorf("Row of %d bytes", n)
		}
	}
	// Of a nonce's length it says nothing.
	for _, nonce := range []string{"", "n", text(31), text(33), text(200)} {
		if got := seal.Row("", nonce, 100); got != rowOf(t, "", nonce, 100) {
			t.Errorf("Row of a nonce of %d bytes: %x", len(nonce), got)
		}
	}
}

func TestRowNone(t *testing.T) {
	for _, n := range []int{0, -1, -64, -1 << 40, math.MinInt} {
		if got := seal.Row("k", text(32), n); got != "" {
			t.Errorf("Row of %d bytes: %x", n, got)
		}
	}
}

// TestRowHides: what is hidden is the text with the row, byte by byte; of noughts it is the row itself.
func TestRowHides(t *testing.T) {
	sealed, _ := seal.Seal("k", text(32), "note", strings.Repeat("\x00", 200))
	if sealed[:32] != text(32) || sealed[32:232] != seal.Row("k", text(32), 200) {
		t.Errorf("noughts, sealed: %x", sealed)
	}
}

func TestSize(t *testing.T) {
	for _, n := range lengths {
		if got := seal.Size(n); got != n+96 {
			t.Errorf("Size of %d: %d", n, got)
		}
	}
	if got := seal.Size(math.MaxInt - 96); got != math.MaxInt {
		t.Errorf("Size of the greatest that has one: %d", got)
	}
	// Behind that it doesn't go round.
	for _, n := range []int{math.MaxInt - 95, math.MaxInt - 1, math.MaxInt} {
		if got := seal.Size(n); got != math.MaxInt {
			t.Errorf("Size of %d: %d", n, got)
		}
	}
	// There are no such texts: here it is but the number.
	if seal.Size(-1) != 95 || seal.Size(math.MinInt) != math.MinInt+96 {
		t.Error("Size below 0")
	}
}

func TestOpenWrong(t *testing.T) {
	for _, c := range []struct {
		note, sealed int
		want         api.Errno
	}{
		{4, 0, api.ErrShort},
		{4, 1, api.ErrShort},
		{4, 32, api.ErrShort},
		{4, 95, api.ErrShort},
		{4, 96, api.ErrSum},
		{4, 97, api.ErrSum},
		{maxNote, 200, api.ErrSum},
		{4, maxText + 96, api.ErrSum},
		{4, maxText + 97, api.ErrLong},
		{4, 1 << 20, api.ErrLong},
		{maxNote + 1, 96, api.ErrLong},
		{1 << 20, 200, api.ErrLong},
		{maxNote + 1, maxText + 97, api.ErrLong},
		// That it is short is named ahead of the note.
		{maxNote + 1, 95, api.ErrShort},
		{1 << 20, 0, api.ErrShort},
	} {
		if got, e := seal.Open("k", text(c.note), text(c.sealed)); e != c.want || got != "" {
			t.Errorf("Open with a note of %d, of %d bytes: %x, %v", c.note, c.sealed, got, e)
		}
	}
}

// TestOpenLongNote: a note that is too long is refused even where its length, gone round, and the sum are right.
func TestOpenLongNote(t *testing.T) {
	note := text(1 << 16)
	sealed := sealedOf(t, "k", text(32), note, "text")
	if got, e := seal.Open("k", note, sealed); e != api.ErrLong || got != "" {
		t.Errorf("Open with a long note: %x, %v", got, e)
	}
	long := sealedOf(t, "k", text(32), "note", text(maxText+1))
	if got, e := seal.Open("k", "note", long); e != api.ErrLong || got != "" {
		t.Errorf("Open of a long text: %d bytes, %v", len(got), e)
	}
}

// TestOpenTurned turns each bit of a sealed text, one by one; cuts it, and lengthens it.
func TestOpenTurned(t *testing.T) {
	for _, n := range []int{0, 1, 70} {
		sealed, _ := seal.Seal("key", text(32), "note", text(n))
		for i := range len(sealed) * 8 {
			turned := []byte(sealed)
			turned[i/8] ^= 1 << (i % 8)
			if got, e := seal.Open("key", "note", string(turned)); e != api.ErrSum || got != "" {
				t.Fatalf("Open of %d bytes, with the bit %d turned: %x, %v", n, i, got, e)
			}
		}
		for i := range n {
			if got, e := seal.Open("key", "note", sealed[:96+i]); e != api.ErrSum || got != "" {
				t.Errorf("Open of %d bytes, cut at %d: %x, %v", n, 96+i, got, e)
			}
		}
		for _, other := range []string{sealed + "\x00", "\x00" + sealed, sealed[:32] + "\x00" + sealed[32:], sealed + sealed} {
			if got, e := seal.Open("key", "note", other); e != api.ErrSum || got != "" {
				t.Errorf("Open of %d bytes, lengthened: %x, %v", n, got, e)
			}
		}
	}
}

// TestOpenOther: by another key, or with another note, it isn't opened.
func TestOpenOther(t *testing.T) {
	sealed, _ := seal.Seal("key", text(32), "note", "text")
	for _, key := range []string{"", "k", "Key", "key2", sealed} {
		if got, e := seal.Open(key, "note", sealed); e != api.ErrSum || got != "" {
			t.Errorf("Open by %q: %x, %v", key, got, e)
		}
	}
	for _, note := range []string{"", "not", "Note", "note\x00", "note" + text(32)} {
		if got, e := seal.Open("key", note, sealed); e != api.ErrSum || got != "" {
			t.Errorf("Open with the note %q: %x, %v", note, got, e)
		}
	}
	if got, e := seal.Open("key", "note", sealed); e != api.OK || got != "text" {
		t.Errorf("Open: %x, %v", got, e)
	}
}

// TestSealHangsOnArguments: side by side and again, each call answers the same.
func TestSealHangsOnArguments(t *testing.T) {
	a, _ := seal.Seal("a", text(32), "n", "text")
	b, _ := seal.Seal("b", text(32), "n", "text")
	again, _ := seal.Seal("a", text(32), "n", "text")
	if a != again || a == b {
		t.Error("Seal hangs on something else")
	}
}
