package frame_test

import (
	"math"
	"strings"
	"testing"

	"opaline/api"
	"opaline/frame"
)

// rawReply is a reply's bytes, put together apart from the program.
func rawReply(r frame.Reply) string {
	return string([]byte{byte(r.Code / 256), byte(r.Code % 256), byte(r.Session)}) + counted(r.Body)
}

// bothReply: a reply is written as those bytes, and they are read as that reply.
func bothReply(t *testing.T, r frame.Reply) {
	t.Helper()
	want := rawReply(r)
	if got, e := r.Bytes(); e != api.OK || got != want {
		t.Errorf("Bytes of %+v: %x, %v", r, got, e)
	}
	if got, e := frame.ParseReply(want); e != api.OK || got != r {
		t.Errorf("ParseReply of %x: %+v, %v", want, got, e)
	}
}

func TestReplyKnown(t *testing.T) {
	for want, r := range map[string]frame.Reply{
		"\x00\x00\x00\x00\x00":           {},
		"\x00\x14\x00\x00\x01x":          {Code: api.ErrLocked, Body: "x"},
		"\x00\x00\x08\x00\x03ke2":        {Session: 8, Body: "ke2"},
		"\x01\x02\xff\x00\x02\xc3\xa9":   {Code: 258, Session: 255, Body: "é"},
		"\xff\xff\x01\x00\x02\x00\xff":   {Code: 65535, Session: 1, Body: "\x00\xff"},
		"\x00\x3c\x00\x00\x04\x00\x00..": {Code: api.ErrSyntax, Body: "\x00\x00.."},
	} {
		if got, e := r.Bytes(); e != api.OK || got != want {
			t.Errorf("Bytes of %+v: %x, %v", r, got, e)
		}
		bothReply(t, r)
	}
}

func TestReplyEach(t *testing.T) {
	for code := range 65536 {
		bothReply(t, frame.Reply{Code: api.Errno(code), Session: code % 256, Body: "b"})
	}
	for session := range 256 {
		bothReply(t, frame.Reply{Code: 20, Session: session})
	}
	for n := range 508 {
		bothReply(t, frame.Reply{Session: 3, Body: text(n)})
	}
	for b := range 256 {
		bothReply(t, frame.Reply{Body: strings.Repeat(string([]byte{byte(b)}), 300)})
	}
}

func TestReplyBytesWrong(t *testing.T) {
	long := text(508)
	for _, c := range []struct {
		what string
		r    frame.Reply
		want api.Errno
	}{
		{"Code -1", frame.Reply{Code: -1}, api.ErrRange},
		{"Code 65536", frame.Reply{Code: 65536}, api.ErrRange},
		{"the least Code", frame.Reply{Code: math.MinInt}, api.ErrRange},
		{"the greatest Code", frame.Reply{Code: math.MaxInt}, api.ErrRange},
		{"a Code that is 1 modulo 2^32", frame.Reply{Code: 1<<32 + 1}, api.ErrRange},
		{"session -1", frame.Reply{Session: -1}, api.ErrRange},
		{"session 256", frame.Reply{Session: 256}, api.ErrRange},
		{"the least session", frame.Reply{Session: math.MinInt}, api.ErrRange},
		{"the greatest session", frame.Reply{Session: math.MaxInt}, api.ErrRange},
		{"513 bytes", frame.Reply{Body: long}, api.ErrLong},
		{"513 bytes, the numbers at their ends", frame.Reply{Code: 65535, Session: 255, Body: long}, api.ErrLong},
		{"a body of 2^16 bytes", frame.Reply{Body: text(1 << 16)}, api.ErrLong},
		{"a body of 2^16 + 3 bytes", frame.Reply{Body: text(1<<16 + 3)}, api.ErrLong},
		// Numbers are named ahead of how long it is.
		{"Code and length", frame.Reply{Code: -1, Body: long}, api.ErrRange},
		{"session and length", frame.Reply{Session: 256, Body: long}, api.ErrRange},
	} {
		if got, e := c.r.Bytes(); e != c.want || got != "" {
			t.Errorf("Bytes of %s: %d bytes, %v", c.what, len(got), e)
		}
	}
}

// refusedReply: bytes are no reply's, and nothing else is told.
func refusedReply(t *testing.T, s string, want api.Errno) {
	t.Helper()
	if got, e := frame.ParseReply(s); e != want || got != (frame.Reply{}) {
		t.Errorf("ParseReply of %x: %+v, %v, wanted %v", s, got, e, want)
	}
}

func TestParseReplyWrong(t *testing.T) {
	for _, r := range []frame.Reply{{}, {Code: 65535, Session: 255, Body: "body"}, {Session: 1, Body: text(300)}, {Body: text(507)}} {
		s := rawReply(r)
		for n := range len(s) {
			refusedReply(t, s[:n], api.ErrShort)
		}
		for n := 1; len(s)+n <= 512; n++ {
			refusedReply(t, s+strings.Repeat("\x00", n), api.ErrForm)
			refusedReply(t, s+text(n), api.ErrForm)
		}
	}
	refusedReply(t, "\x00\x00\x00\xff\xff"+text(507), api.ErrShort)
	// A byte too many is too many, whatever else is wrong.
	for _, long := range []string{
		rawReply(frame.Reply{Body: text(507)}) + "\x00",
		rawReply(frame.Reply{Body: text(508)}),
		"\x00\x00\x00\xff\xff" + text(508),
		strings.Repeat("\x00", 513), strings.Repeat("\xff", 513), text(1 << 16),
	} {
		refusedReply(t, long, api.ErrLong)
	}
	refusedReply(t, strings.Repeat("\x00", 512), api.ErrForm)
	refusedReply(t, strings.Repeat("\xff", 512), api.ErrShort)
}

// TestReplyAny: all texts of which the length is right are read, and would be written so.
func TestReplyAny(t *testing.T) {
	for n := range 508 {
		s := text(3) + counted(text(n))
		r, e := frame.ParseReply(s)
		if e != api.OK {
			t.Fatalf("ParseReply of a body of %d bytes: %v", n, e)
		}
		if again, e := r.Bytes(); e != api.OK || again != s {
			t.Errorf("Bytes of what was read, of a body of %d bytes: %v", n, e)
		}
	}
}
