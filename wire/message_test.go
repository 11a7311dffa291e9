package wire_test

import (
	"slices"
	"strings"
	"testing"

	"opaline/api"
	"opaline/wire"
)

// kind is a message's, told by its parts alone.
type kind struct {
	name  string
	sizes []int
	write func(p []string) (string, api.Errno)
	read  func(s string) ([]string, api.Errno)
}

// kinds are all messages, with their parts in the chapter's order.
func kinds() []kind {
	return []kind{
		{"Request", []int{32},
			func(p []string) (string, api.Errno) { return wire.Request{Blinded: p[0]}.Bytes() },
			func(s string) ([]string, api.Errno) {
				m, e := wire.ParseRequest(s)
				return []string{m.Blinded}, e
			}},
		{"Response", []int{32, 32},
			func(p []string) (string, api.Errno) {
				return wire.Response{Evaluated: p[0], Public: p[1]}.Bytes()
			},
			func(s string) ([]string, api.Errno) {
				m, e := wire.ParseResponse(s)
				return []string{m.Evaluated, m.Public}, e
			}},
		{"Record", []int{32, 64, 96},
			func(p []string) (string, api.Errno) {
				return wire.Record{Public: p[0], Masking: p[1], Envelope: p[2]}.Bytes()
			},
			func(s string) ([]string, api.Errno) {
				m, e := wire.ParseRecord(s)
				return []string{m.Public, m.Masking, m.Envelope}, e
			}},
		{"KE1", []int{32, 32, 32},
			func(p []string) (string, api.Errno) {
				return wire.KE1{Blinded: p[0], Nonce: p[1], Share: p[2]}.Bytes()
			},
			func(s string) ([]string, api.Errno) {
				m, e := wire.ParseKE1(s)
				return []string{m.Blinded, m.Nonce, m.Share}, e
			}},
		{"KE2", []int{32, 32, 128, 32, 32, 64},
			func(p []string) (string, api.Errno) {
				return wire.KE2{Evaluated: p[0], MaskNonce: p[1], Masked: p[2], Nonce: p[3], Share: p[4], MAC: p[5]}.Bytes()
			},
			func(s string) ([]string, api.Errno) {
				m, e := wire.ParseKE2(s)
				return []string{m.Evaluated, m.MaskNonce, m.Masked, m.Nonce, m.Share, m.MAC}, e
			}},
		{"KE3", []int{64},
			func(p []string) (string, api.Errno) { return wire.KE3{MAC: p[0]}.Bytes() },
			func(s string) ([]string, api.Errno) {
				m, e := wire.ParseKE3(s)
				return []string{m.MAC}, e
			}},
	}
}

func (k kind) whole() int {
	n := 0
	for _, size := range k.sizes {
		n += size
	}
	return n
}

// partsOf cuts a text by hand: none of them is another one's.
func (k kind) partsOf(s string) []string {
	var parts []string
	for _, size := range k.sizes {
		parts = append(parts, s[:size])
		s = s[size:]
	}
	return parts
}

func TestMessages(t *testing.T) {
	wholes := []int{32, 64, 192, 96, 320, 64}
	for i, k := range kinds() {
		s := text(k.whole())
		parts := k.partsOf(s)
		if len(s) != wholes[i] {
			t.Fatalf("%s: %d bytes", k.name, len(s))
		}
		if got, e := k.write(parts); e != api.OK || got != s {
			t.Errorf("%s, written: %x, %v", k.name, got, e)
		}
		if got, e := k.read(s); e != api.OK || !slices.Equal(got, parts) {
			t.Errorf("%s, read: %q, %v", k.name, got, e)
		}
	}
}

// TestMessagesAny: all bytes are read, and would be written so.
func TestMessagesAny(t *testing.T) {
	for _, k := range kinds() {
		for b := range 256 {
			s := strings.Repeat(string([]byte{byte(b)}), k.whole())
			parts, e := k.read(s)
			if e != api.OK {
				t.Fatalf("%s of bytes %d: %v", k.name, b, e)
			}
			if got, e := k.write(parts); e != api.OK || got != s {
				t.Errorf("%s of bytes %d: %v", k.name, b, e)
			}
		}
	}
}

// TestMessagesCut goes over all lengths, from none to twice a message's.
func TestMessagesCut(t *testing.T) {
	for _, k := range kinds() {
		for n := range 2*k.whole() + 1 {
			want := api.OK
			if n < k.whole() {
				want = api.ErrShort
			}
			if n > k.whole() {
				want = api.ErrForm
			}
			got, e := k.read(text(n))
			if e != want || e != api.OK && strings.Join(got, "") != "" {
				t.Errorf("%s of %d bytes: %q, %v", k.name, n, got, e)
			}
		}
	}
}

// TestMessagesParts gives each part another length, one by one.
func TestMessagesParts(t *testing.T) {
	for _, k := range kinds() {
		for i, size := range k.sizes {
			for _, n := range []int{0, 1, size - 1, size + 1, 2 * size, 1000} {
				parts := k.partsOf(text(k.whole()))
				parts[i] = text(n)
				if got, e := k.write(parts); e != api.ErrForm || got != "" {
					t.Errorf("%s with a part %d of %d bytes: %x, %v", k.name, i, n, got, e)
				}
			}
		}
	}
}

// TestMessagesShifted gives one part a byte that is another one's: together they have as many as they should.
func TestMessagesShifted(t *testing.T) {
	for _, k := range kinds() {
		for i := range len(k.sizes) - 1 {
			parts := k.partsOf(text(k.whole()))
			all := parts[i] + parts[i+1]
			for _, cut := range []int{k.sizes[i] - 1, k.sizes[i] + 1} {
				parts[i], parts[i+1] = all[:cut], all[cut:]
				if got, e := k.write(parts); e != api.ErrForm || got != "" {
					t.Errorf("%s, shifted at %d: %x, %v", k.name, i, got, e)
				}
			}
		}
	}
}

func TestMessagesZero(t *testing.T) {
	for _, k := range kinds() {
		if got, e := k.write(make([]string, len(k.sizes))); e != api.ErrForm || got != "" {
			t.Errorf("%s of nothing: %x, %v", k.name, got, e)
		}
	}
}

func TestAnswer(t *testing.T) {
	s := text(320)
	m, e := wire.ParseKE2(s)
	if got := m.Answer(); e != api.OK || got != s[:192] {
		t.Errorf("Answer: %x, %v", got, e)
	}
	// Of its parts' lengths it says nothing.
	m = wire.KE2{Evaluated: "a", MaskNonce: "bc", Masked: "def", Nonce: "g", Share: "h", MAC: "i"}
	if got := m.Answer(); got != "abcdef" {
		t.Errorf("Answer of short parts: %q", got)
	}
	if got := (wire.KE2{}).Answer(); got != "" {
		t.Errorf("Answer of nothing: %q", got)
	}
}
