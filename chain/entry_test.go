package chain_test

import (
	"encoding/binary"
	"math"
	"strings"
	"testing"

	"opaline/api"
	"opaline/chain"
)

// written is an entry's text, put together apart from the program.
func written(e chain.Entry) string {
	b := binary.BigEndian.AppendUint64(nil, e.Seq)
	b = binary.BigEndian.AppendUint64(b, e.Tick)
	b = append(b, byte(e.Kind))
	for _, s := range []string{e.Name, e.Note} {
		b = binary.BigEndian.AppendUint16(b, uint16(len(s)))
		b = append(b, s...)
	}
	return string(b)
}

// entries are some that may be, to the ends of numbers and lengths.
func entries() []chain.Entry {
	var l []chain.Entry
	for kind := 1; kind <= 11; kind++ {
		l = append(l, chain.Entry{Seq: uint64(kind), Tick: uint64(100 - kind), Kind: kind, Name: "alice", Note: "x"})
	}
	return append(l,
		chain.Entry{Kind: 1},
		chain.Entry{Seq: 0x0102030405060708, Tick: 0x1112131415161718, Kind: 9, Name: "", Note: "no name"},
		chain.Entry{Seq: math.MaxUint64, Tick: math.MaxUint64, Kind: 11, Name: "no note"},
		chain.Entry{Kind: 2, Name: strings.Repeat("n", 64), Note: strings.Repeat("o", 255)},
		chain.Entry{Kind: 3, Name: "\x00\xff\x80", Note: "\x00\x00\x01\xfe\n"},
	)
}

func TestWords(t *testing.T) {
	want := " register login deny lock refill recover rotate remove open admin refund"
	words := chain.Words()
	if got := strings.Join(words[:], " "); got != want {
		t.Errorf("Words: %q", got)
	}
	words[1] = "other"
	if chain.Words()[1] != "register" {
		t.Error("Words is one memory")
	}
}

func TestEntry(t *testing.T) {
	plain := chain.Entry{Seq: 1, Tick: 258, Kind: 2, Name: "bob", Note: "n"}
	if s, e := plain.Text(); e != api.OK || s != "\x00\x00\x00\x00\x00\x00\x00\x01\x00\x00\x00\x00\x00\x00\x01\x02\x02\x00\x03bob\x00\x01n" {
		t.Errorf("Text: %q, %v", s, e)
	}
	for _, entry := range entries() {
		s, e := entry.Text()
		if e != api.OK || s != written(entry) {
			t.Errorf("Text of %+v: %q, %v", entry, s, e)
		}
		if got, e := chain.Parse(s); e != api.OK || got != entry {
			t.Errorf("Parse of %+v: %+v, %v", entry, got, e)
		}
	}
}

func TestEntryWrong(t *testing.T) {
	long, note := strings.Repeat("n", 65), strings.Repeat("o", 256)
	for _, c := range []struct {
		entry chain.Entry
		want  api.Errno
	}{
		{chain.Entry{}, api.ErrKind},
		{chain.Entry{Kind: 12}, api.ErrKind},
		{chain.Entry{Kind: -1}, api.ErrKind},
		{chain.Entry{Kind: 256 + 1}, api.ErrKind},
		{chain.Entry{Kind: math.MinInt}, api.ErrKind},
		{chain.Entry{Kind: math.MaxInt}, api.ErrKind},
		{chain.Entry{Kind: 1, Name: long}, api.ErrLong},
		{chain.Entry{Kind: 11, Note: note}, api.ErrLong},
		{chain.Entry{Kind: 1, Name: strings.Repeat("n", 65536)}, api.ErrLong},
		{chain.Entry{Kind: 1, Note: strings.Repeat("n", 65536)}, api.ErrLong},
		{chain.Entry{Kind: 0, Name: long, Note: note}, api.ErrKind},
	} {
		if s, e := c.entry.Text(); s != "" || e != c.want {
			t.Errorf("Text of kind %d: %q, %v", c.entry.Kind, s, e)
		}
	}
}

// refused: a text is no entry's.
func refused(t *testing.T, what, text string) {
	t.Helper()
	if got, e := chain.Parse(text); e != api.ErrForm || got != (chain.Entry{}) {
		t.Errorf("Parse of %s: %+v, %v", what, got, e)
	}
}

func TestParseWrong(t *testing.T) {
	for _, entry := range entries() {
		s := written(entry)
		for i := range len(s) {
			refused(t, "a text that ends too soon", s[:i])
		}
		refused(t, "a text with a byte behind", s+"\x00")
		refused(t, "a text twice", s+s)
	}
	for _, kind := range []int{0, 12, 13, 128, 255} {
		refused(t, "another kind", written(chain.Entry{Seq: 1, Kind: kind, Name: "a"}))
	}
	refused(t, "a long name", written(chain.Entry{Kind: 1, Name: strings.Repeat("n", 65)}))
	refused(t, "a long note", written(chain.Entry{Kind: 1, Note: strings.Repeat("n", 256)}))
	refused(t, "what is far too long", written(chain.Entry{Kind: 1, Name: strings.Repeat("n", 65535)}))
}

// TestParseTurned: what is read of a text with another byte would be written so; where that isn't, it is refused.
func TestParseTurned(t *testing.T) {
	for _, entry := range entries() {
		s := written(entry)
		for i := range len(s) {
			for _, by := range []byte{1, 2, 0x10, 0x80, 0xff} {
				b := []byte(s)
				b[i] ^= by
				got, e := chain.Parse(string(b))
				if e == api.OK && (written(got) != string(b) || got == entry) {
					t.Errorf("%q is read as %+v", b, got)
				}
				if _, wrong := got.Text(); e == api.OK && wrong != api.OK {
					t.Errorf("%q is read as what may not be", b)
				}
			}
		}
	}
}
