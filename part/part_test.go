package part_test

import (
	"encoding/binary"
	"math"
	"strings"
	"testing"

	"opaline/api"
	"opaline/must"
	"opaline/part"
	"opaline/sha"
)

func TestEight(t *testing.T) {
	for _, n := range []uint64{0, 1, 255, 256, 0x0102030405060708, 1 << 63, math.MaxUint64 - 1, math.MaxUint64} {
		s := part.Eight(n)
		if s != string(binary.BigEndian.AppendUint64(nil, n)) {
			t.Errorf("Eight of %x: %x", n, s)
		}
		r := part.Read(s + "more")
		if got := r.Eight(); got != n || r.Take(4) != "more" || r.More() {
			t.Errorf("%x, read again: %x", n, got)
		}
	}
}

func TestFour(t *testing.T) {
	for _, n := range []uint32{0, 1, 255, 256, 0x01020304, 1 << 31, math.MaxUint32 - 1, math.MaxUint32} {
		s := part.Four(n)
		if s != string(binary.BigEndian.AppendUint32(nil, n)) {
			t.Errorf("Four of %x: %x", n, s)
		}
		r := part.Read(s + "more")
		if got := r.Four(); got != n || r.Take(4) != "more" || r.More() {
			t.Errorf("%x, read again: %x", n, got)
		}
	}
}

func TestFlag(t *testing.T) {
	if part.Flag(true) != "\x01" || part.Flag(false) != "\x00" {
		t.Error("Flag")
	}
	for b := range 256 {
		so, e := part.Whole(string([]byte{byte(b)}), (*part.Reader).Flag)
		if so != (b == 1) || (e == api.OK) != (b <= 1) || b > 1 && e != api.ErrForm {
			t.Errorf("the flag %d: %v, %v", b, so, e)
		}
	}
}

func TestWhole(t *testing.T) {
	pair := func(r *part.Reader) [2]string { return [2]string{r.Take(2), r.Counted()} }
	if got, e := part.Whole("ab\x00\x01c", pair); e != api.OK || got != [2]string{"ab", "c"} {
		t.Errorf("Whole: %q, %v", got, e)
	}
	for _, s := range []string{"", "a", "ab", "ab\x00", "ab\x00\x01", "ab\x00\x01cd", "ab\x00\x00c"} {
		if got, e := part.Whole(s, pair); e != api.ErrForm || got != [2]string{} {
			t.Errorf("Whole of %q: %q, %v", s, got, e)
		}
	}
	refuse := func(*part.Reader) int { must.OK(api.ErrKind); return 1 }
	if got, e := part.Whole("more", refuse); e != api.ErrKind || got != 0 {
		t.Errorf("Whole of what the reading refuses: %d, %v", got, e)
	}
}

// TestUncut: a text that ends too soon has the error that was handed in, one that goes on has ErrForm.
func TestUncut(t *testing.T) {
	pair := func(r *part.Reader) [2]string { return [2]string{r.Take(2), r.Counted()} }
	for s, want := range map[string]api.Errno{
		"ab\x00\x01c": api.OK, "ab\x00\x00": api.OK,
		"": api.ErrShort, "a": api.ErrShort, "ab": api.ErrShort, "ab\x00": api.ErrShort, "ab\x00\x01": api.ErrShort,
		"ab\x00\x01cd": api.ErrForm, "ab\x00\x00c": api.ErrForm,
	} {
		got, e := part.Uncut(s, api.ErrShort, pair)
		if e != want || e != api.OK && got != [2]string{} || e == api.OK && got != [2]string{"ab", s[4:]} {
			t.Errorf("Uncut of %q: %q, %v", s, got, e)
		}
	}
	refuse := func(*part.Reader) int { must.OK(api.ErrKind); return 1 }
	if got, e := part.Uncut("more", api.ErrShort, refuse); e != api.ErrKind || got != 0 {
		t.Errorf("Uncut of what the reading refuses: %d, %v", got, e)
	}
}

func TestReader(t *testing.T) {
	long := strings.Repeat("l", 65535)
	_, e := must.Door(func() int {
		r := part.Read("\x07" + sha.Counted("", "ab", long) + "rest")
		if !r.More() || r.Byte() != 7 || r.Counted() != "" || r.Counted() != "ab" || r.Counted() != long {
			t.Error("the parts")
		}
		if r.Take(0) != "" || r.Take(3) != "res" || !r.More() || r.Byte() != 't' || r.More() || r.Take(0) != "" {
			t.Error("the rest")
		}
		return 0
	})
	if e != api.OK {
		t.Error(e)
	}
}

// TestReaderEnds: what ends too soon is ErrForm, whatever of it is asked for.
func TestReaderEnds(t *testing.T) {
	for name, read := range map[string]func(r *part.Reader){
		"Byte of none":      func(r *part.Reader) { r.Take(9); r.Byte() },
		"Take of too many":  func(r *part.Reader) { r.Take(10) },
		"Take of very many": func(r *part.Reader) { r.Take(math.MaxInt) },
		"Eight of seven":    func(r *part.Reader) { r.Take(2); r.Eight() },
		"Four of three":     func(r *part.Reader) { r.Take(7); r.Four() },
		"Flag of none":      func(r *part.Reader) { r.Take(9); r.Flag() },
		"Counted of none":   func(r *part.Reader) { r.Take(9); r.Counted() },
		"Counted of one":    func(r *part.Reader) { r.Take(8); r.Counted() },
		"Counted too short": func(r *part.Reader) { r.Counted() },
	} {
		reached := false
		e := must.Done(func() {
			read(part.Read("\x00\x08abcdefg"))
			reached = true
		})
		if e != api.ErrForm || reached {
			t.Errorf("%s: %v", name, e)
		}
	}
}
