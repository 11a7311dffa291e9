package frame_test

import (
	"math"
	"math/rand"
	"strings"
	"testing"

	"opaline/api"
	"opaline/frame"
)

// text is n bytes, of which neighbours are unlike.
func text(n int) string {
	out := make([]byte, n)
	for i := range out {
		out[i] = byte(i*7 + i>>8 + 3)
	}
	return string(out)
}

// counted is a text behind how many bytes it has, modulo 2^16, put together apart from the program.
func counted(s string) string {
	n := len(s) % 65536
	return string([]byte{byte(n / 256), byte(n % 256)}) + s
}

// raw is a frame's bytes, put together apart from the program.
func raw(f frame.Frame) string {
	return string([]byte{byte(f.Kind), byte(f.Session)}) + counted(f.Name) + counted(f.Body) + counted(f.Sum)
}

func words() []string {
	return []string{"", "start", "end", "login", "finish", "tick", "recover", "lock", "remove", "rotate", "head"}
}

func TestKinds(t *testing.T) {
	for i, kind := range []int{frame.Start, frame.End, frame.Login, frame.Finish, frame.Tick, frame.Recover, frame.Lock, frame.Remove, frame.Rotate, frame.Head} {
		if kind != i+1 {
			t.Errorf("the kind %s: %d", words()[i+1], kind)
		}
	}
	got := frame.Words()
	for i, want := range words() {
		if got[i] != want {
			t.Errorf("the word at %d: %q", i, got[i])
		}
	}
	// An answer is the caller's own.
	got[frame.Tick] = "changed"
	if frame.Words()[frame.Tick] != "tick" {
		t.Error("two answers of Words share memory")
	}
}

func TestAdmin(t *testing.T) {
	kinds := []int{math.MinInt, -250, -7, 255 + 8, 256 + 6, 1<<32 + 7, math.MaxInt}
	for kind := -2; kind < 20; kind++ {
		kinds = append(kinds, kind)
	}
	for _, kind := range kinds {
		want := kind == 6 || kind == 7 || kind == 8 || kind == 9
		if frame.Admin(kind) != want {
			t.Errorf("Admin of %d: %v", kind, !want)
		}
	}
}

// both: a frame is written as those bytes, and they are read as that frame.
func both(t *testing.T, f frame.Frame) {
	t.Helper()
	want := raw(f)
	if got, e := f.Bytes(); e != api.OK || got != want {
		t.Errorf("Bytes of %+v: %x, %v", f, got, e)
	}
	if got, e := frame.Parse(want); e != api.OK || got != f {
		t.Errorf("Parse of %x: %+v, %v", want, got, e)
	}
}

func TestFrameKnown(t *testing.T) {
	for want, f := range map[string]frame.Frame{
		"\x0a\x00\x00\x00\x00\x00\x00\x00":                     {Kind: frame.Head},
		"\x01\x00\x00\x05alice\x00\x04body\x00\x00":            {Kind: frame.Start, Name: "alice", Body: "body"},
		"\x04\xff\x00\x00\x00\x03mac\x00\x00":                  {Kind: frame.Finish, Session: 255, Body: "mac"},
		"\x07\x02\x00\x01a\x00\x00\x00\x03sum":                 {Kind: frame.Lock, Session: 2, Name: "a", Sum: "sum"},
		"\x06\x01\x00\x02\x00\x01\x00\x01\xff\x00\x02\xc3\xa9": {Kind: frame.Recover, Session: 1, Name: "\x00\x01", Body: "\xff", Sum: "é"},
	} {
		if got, e := f.Bytes(); e != api.OK || got != want {
			t.Errorf("Bytes of %+v: %x, %v", f, got, e)
		}
		both(t, f)
	}
}

func TestFrameEach(t *testing.T) {
	for kind := frame.Start; kind <= frame.Head; kind++ {
		for session := range 256 {
			both(t, frame.Frame{Kind: kind, Session: session, Name: "alice", Body: "b", Sum: "s"})
			both(t, frame.Frame{Kind: kind, Session: session})
		}
	}
	// Of a name, a body and a sum nothing is said but how long all of it is.
	for b := range 256 {
		s := strings.Repeat(string([]byte{byte(b)}), 70)
		both(t, frame.Frame{Kind: frame.Login, Name: s, Body: s, Sum: s})
	}
}

// TestFrameLengths goes over how long all parts may be, up to 512 bytes with the eight of the rest.
func TestFrameLengths(t *testing.T) {
	for _, n := range []int{0, 1, 2, 64, 65, 254, 255, 256, 257, 300, 503, 504} {
		for _, m := range []int{0, 1, 100, 255, 256, 504 - n} {
			if m < 0 || n+m > 504 {
				continue
			}
			for _, f := range []frame.Frame{
				{Kind: 3, Session: 9, Name: text(n), Body: text(m)},
				{Kind: 3, Session: 9, Name: text(n), Sum: text(m)},
				{Kind: 3, Session: 9, Body: text(n), Sum: text(m)},
				{Kind: 3, Session: 9, Name: text(n), Body: text(m), Sum: text(504 - n - m)},
			} {
				both(t, f)
			}
		}
	}
}

func TestFrameBytesWrong(t *testing.T) {
	long := text(505)
	for _, c := range []struct {
		what string
		f    frame.Frame
		want api.Errno
	}{
		{"nothing", frame.Frame{}, api.ErrKind},
		{"kind 11", frame.Frame{Kind: 11}, api.ErrKind},
		{"kind -1", frame.Frame{Kind: -1}, api.ErrKind},
		{"a kind that is 1 modulo 256", frame.Frame{Kind: 257}, api.ErrKind},
		{"a kind that is 1 modulo 2^32", frame.Frame{Kind: 1<<32 + 1}, api.ErrKind},
		{"the least kind", frame.Frame{Kind: math.MinInt}, api.ErrKind},
		{"the greatest kind", frame.Frame{Kind: math.MaxInt}, api.ErrKind},
		{"session -1", frame.Frame{Kind: 1, Session: -1}, api.ErrRange},
		{"session 256", frame.Frame{Kind: 10, Session: 256}, api.ErrRange},
		{"the least session", frame.Frame{Kind: 1, Session: math.MinInt}, api.ErrRange},
		{"the greatest session", frame.Frame{Kind: 1, Session: math.MaxInt}, api.ErrRange},
		{"a long name", frame.Frame{Kind: 1, Name: long}, api.ErrLong},
		{"a long body", frame.Frame{Kind: 1, Body: long}, api.ErrLong},
		{"a long sum", frame.Frame{Kind: 1, Sum: long}, api.ErrLong},
		{"513 bytes", frame.Frame{Kind: 10, Session: 255, Name: text(64), Body: text(377), Sum: text(64)}, api.ErrLong},
		{"a name of 2^16 bytes", frame.Frame{Kind: 1, Name: text(1 << 16)}, api.ErrLong},
		{"a sum of 2^16 + 3 bytes", frame.Frame{Kind: 1, Sum: text(1<<16 + 3)}, api.ErrLong},
		// The kind is named ahead of the session, that ahead of how long it is.
		{"all wrong", frame.Frame{Kind: 0, Session: 256, Name: long}, api.ErrKind},
		{"kind and session", frame.Frame{Kind: 11, Session: -1}, api.ErrKind},
		{"kind and length", frame.Frame{Kind: 11, Body: long}, api.ErrKind},
		{"session and length", frame.Frame{Kind: 5, Session: -1, Sum: long}, api.ErrRange},
	} {
		if got, e := c.f.Bytes(); e != c.want || got != "" {
			t.Errorf("Bytes of %s: %d bytes, %v", c.what, len(got), e)
		}
	}
}

// refused: bytes are no frame's, and nothing else is told.
func refused(t *testing.T, s string, want api.Errno) {
	t.Helper()
	if got, e := frame.Parse(s); e != want || got != (frame.Frame{}) {
		t.Errorf("Parse of %x: %+v, %v, wanted %v", s, got, e, want)
	}
}

func TestParseCut(t *testing.T) {
	for _, f := range []frame.Frame{
		{Kind: 1},
		{Kind: 10, Session: 255, Name: "alice", Body: "body", Sum: "sum"},
		{Kind: 3, Name: text(64), Body: text(376), Sum: text(64)},
	} {
		s := raw(f)
		for n := range len(s) {
			refused(t, s[:n], api.ErrShort)
			// That it ends too early is named ahead of its kind.
			if n > 0 {
				refused(t, "\x0b"+s[1:n], api.ErrShort)
			}
		}
	}
	refused(t, "", api.ErrShort)
	// A length that is greater than all there is.
	refused(t, "\x01\x00\xff\xff"+text(508), api.ErrShort)
	refused(t, "\x01\x00\x00\x01a\xff\xff"+text(505), api.ErrShort)
	refused(t, "\x01\x00\x00\x00\x00\x00\x00\x01", api.ErrShort)
	refused(t, "\x01\x00\x00\x00\x00\x01\x00\x00", api.ErrShort)
}

func TestParseBehind(t *testing.T) {
	for _, f := range []frame.Frame{{Kind: 1}, {Kind: 10, Session: 255, Name: "alice", Body: "body", Sum: "sum"}} {
		s := raw(f)
		for n := 1; len(s)+n <= 512; n++ {
			refused(t, s+strings.Repeat("\x00", n), api.ErrForm)
			refused(t, s+text(n), api.ErrForm)
			// That something stands behind is named ahead of its kind.
			refused(t, "\x00"+s[1:]+text(n), api.ErrForm)
		}
		refused(t, s+s, api.ErrForm)
	}
}

func TestParseKind(t *testing.T) {
	for kind := range 256 {
		s := string([]byte{byte(kind)}) + raw(frame.Frame{Session: 7, Name: "alice"})[1:]
		if kind >= 1 && kind <= 10 {
			both(t, frame.Frame{Kind: kind, Session: 7, Name: "alice"})
			continue
		}
		refused(t, s, api.ErrKind)
	}
}

func TestParseLong(t *testing.T) {
	// The greatest frame is read; a byte more is too many, whatever else is wrong.
	s := raw(frame.Frame{Kind: 3, Name: text(64), Body: text(376), Sum: text(64)})
	if len(s) != 512 {
		t.Fatal(len(s))
	}
	if f, e := frame.Parse(s); e != api.OK || f.Sum != text(64) {
		t.Errorf("Parse of 512 bytes: %v", e)
	}
	for _, long := range []string{
		s + "\x00",
		raw(frame.Frame{Kind: 3, Name: text(64), Body: text(377), Sum: text(64)}),
		raw(frame.Frame{Kind: 0, Body: text(505)}),
		"\x01\x00\xff\xff" + text(509),
		strings.Repeat("\x00", 513), strings.Repeat("\xff", 513), text(1 << 16), text(1<<16 + 8),
	} {
		refused(t, long, api.ErrLong)
	}
	refused(t, strings.Repeat("\x00", 512), api.ErrForm)
	refused(t, strings.Repeat("\xff", 512), api.ErrShort)
}

// signed: what a sum is of, put together apart from the program.
func signed(f frame.Frame) string {
	return string([]byte{byte(f.Kind & 255)}) + counted(f.Name) + counted(f.Body)
}

func TestSigned(t *testing.T) {
	for want, f := range map[string]frame.Frame{
		"\x07\x00\x05alice\x00\x01b": {Kind: frame.Lock, Session: 3, Name: "alice", Body: "b", Sum: "sum"},
		"\x09\x00\x00\x00\x00":       {Kind: frame.Rotate, Sum: text(64)},
		"\x00\x00\x00\x00\x00":       {},
		"\xff\x00\x00\x00\x00":       {Kind: -1},
		"\x01\x00\x01a\x00\x00":      {Kind: 257, Session: 256, Name: "a"},
	} {
		if got := f.Signed(); got != want {
			t.Errorf("Signed of %+v: %x", f, got)
		}
	}
	// Of what may be no frame there is something to sign, too.
	for _, kind := range []int{math.MinInt, -257, -256, -255, -1, 0, 1, 6, 10, 11, 255, 256, 257, 1 << 20, math.MaxInt} {
		for _, n := range []int{0, 1, 255, 256, 505, 65535, 65536, 65537, 1 << 17} {
			f := frame.Frame{Kind: kind, Session: kind, Name: text(n), Body: text(n + 2), Sum: text(9)}
			if f.Signed() != signed(f) {
				t.Errorf("Signed of the kind %d with a name of %d bytes", kind, n)
			}
		}
	}
}

// TestSignedApart: neither the session nor the sum is signed, but how name and body are cut is.
func TestSignedApart(t *testing.T) {
	f := frame.Frame{Kind: frame.Lock, Session: 1, Name: "alice", Body: "body", Sum: "sum"}
	g := f
	g.Session, g.Sum = 2, "another"
	if f.Signed() != g.Signed() {
		t.Error("a session, or a sum, is signed")
	}
	for _, g := range []frame.Frame{
		{Kind: frame.Remove, Name: "alice", Body: "body"},
		{Kind: frame.Lock, Name: "alicebo", Body: "dy"},
		{Kind: frame.Lock, Name: "alicebody"},
		{Kind: frame.Lock, Name: "body", Body: "alice"},
		{Kind: frame.Lock, Name: "alice", Body: "bodz"},
	} {
		if f.Signed() == g.Signed() {
			t.Errorf("%+v is signed as another one", g)
		}
	}
}

// parsed is what a text is, read apart from the program, place by place.
func parsed(s string) (frame.Frame, api.Errno) {
	if len(s) > 512 {
		return frame.Frame{}, api.ErrLong
	}
	at, ends := 2, [3]int{}
	for i := range ends {
		if at+2 > len(s) || at+2+int(s[at])*256+int(s[at+1]) > len(s) {
			return frame.Frame{}, api.ErrShort
		}
		at += 2 + int(s[at])*256 + int(s[at+1])
		ends[i] = at
	}
	if at < len(s) {
		return frame.Frame{}, api.ErrForm
	}
	if s[0] < 1 || s[0] > 10 {
		return frame.Frame{}, api.ErrKind
	}
	return frame.Frame{Kind: int(s[0]), Session: int(s[1]), Name: s[4:ends[0]], Body: s[ends[0]+2 : ends[1]], Sum: s[ends[1]+2:]}, api.OK
}

// TestFrameAny: what is written is read as it was, what is read would be written so, and what isn't has its error.
func TestFrameAny(t *testing.T) {
	r := rand.New(rand.NewSource(23))
	kept := map[api.Errno]int{}
	for range 100000 {
		f := frame.Frame{Kind: 1 + r.Intn(10), Session: r.Intn(256), Name: text(r.Intn(4)), Body: text(r.Intn(4)), Sum: text(r.Intn(4))}
		b := []byte(raw(f))
		for range r.Intn(4) {
			b[r.Intn(len(b))] = byte(r.Intn(12))
		}
		s := string(b)
		want, wrong := parsed(s)
		got, e := frame.Parse(s)
		if e != wrong || got != want {
			t.Fatalf("Parse of %x: %+v, %v, wanted %v", s, got, e, wrong)
		}
		kept[e]++
		if e != api.OK {
			continue
		}
		if again, e := got.Bytes(); e != api.OK || again != s {
			t.Fatalf("Bytes of what was read of %x: %x, %v", s, again, e)
		}
	}
	for _, e := range []api.Errno{api.OK, api.ErrShort, api.ErrForm, api.ErrKind} {
		if kept[e] < 100 {
			t.Errorf("only %d texts with %v", kept[e], e)
		}
	}
}
