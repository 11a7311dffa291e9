package ake_test

import (
	"crypto/hkdf"
	stdhmac "crypto/hmac"
	"crypto/sha512"
	"testing"

	"opaline/ake"
	"opaline/api"
)

const mostCounted = 65535

// counted is a text behind its length.
func counted(s string) string {
	return string([]byte{byte(len(s) >> 8), byte(len(s))}) + s
}

func TestPreamble(t *testing.T) {
	for _, c := range []struct {
		talk ake.Talk
		want string
	}{
		{ake.Talk{}, "OPAQUEv1-\x00\x00\x00\x00\x00\x00"},
		{ake.Talk{Context: "c", KE1: "k"}, "OPAQUEv1-\x00\x01c\x00\x00k\x00\x00"},
		{
			ake.Talk{Context: "context", Client: "alice", KE1: "one", Server: "bob", Answer: "answer", Nonce: "nonce", Share: "share"},
			"OPAQUEv1-\x00\x07context\x00\x05aliceone\x00\x03bobanswernonceshare",
		},
		{ake.Talk{Client: "\x00", Server: "\xff\x00"}, "OPAQUEv1-\x00\x00\x00\x01\x00\x00\x02\xff\x00"},
		{
			ake.Talk{Context: text(256), Client: text(255), KE1: text(96), Server: text(257), Answer: text(192), Nonce: text(32), Share: text(33)},
			"OPAQUEv1-" + counted(text(256)) + counted(text(255)) + text(96) + counted(text(257)) + text(192) + text(32) + text(33),
		},
	} {
		if got, e := c.talk.Preamble(); e != api.OK || got != c.want {
			t.Errorf("Preamble: %q, %v", got, e)
		}
	}
}

// TestPreambleMost goes to the end of those parts that are counted, and far beyond it with the others.
func TestPreambleMost(t *testing.T) {
	most, far := text(mostCounted), text(100000)
	for i, talk := range []ake.Talk{
		{Context: most},
		{Client: most},
		{Server: most},
		{Context: most, Client: most, Server: most},
		{KE1: far},
		{Answer: far},
		{Nonce: far},
		{Share: far},
	} {
		want := "OPAQUEv1-" + counted(talk.Context) + counted(talk.Client) + talk.KE1 + counted(talk.Server) + talk.Answer + talk.Nonce + talk.Share
		if got, e := talk.Preamble(); e != api.OK || got != want {
			t.Errorf("case %d: %d bytes, %v", i, len(got), e)
		}
	}
}

func TestPreambleLong(t *testing.T) {
	for _, n := range []int{mostCounted + 1, mostCounted + 2, 2 * (mostCounted + 1), 1 << 20} {
		for i, talk := range []ake.Talk{{Context: text(n)}, {Client: text(n)}, {Server: text(n)}, {Context: text(n), Client: "c", KE1: "k", Server: text(n), Share: "s"}} {
			if got, e := talk.Preamble(); e != api.ErrLong || got != "" {
				t.Errorf("case %d of %d bytes: %d bytes, %v", i, n, len(got), e)
			}
		}
	}
}

// reckoned is the HMAC of a key and a text, by the library.
func reckoned(key, s string) string {
	h := stdhmac.New(sha512.New, []byte(key))
	h.Write([]byte(s))
	return string(h.Sum(nil))
}

func summed(s string) string {
	sum := sha512.Sum512([]byte(s))
	return string(sum[:])
}

// labelled is RFC 9807's Derive-Secret, by the library.
func labelled(t *testing.T, secret, label, context string) string {
	t.Helper()
	label = "OPAQUE-" + label
	info := "\x00\x40" + string([]byte{byte(len(label))}) + label + string([]byte{byte(len(context))}) + context
	out, err := hkdf.Expand(sha512.New, []byte(secret), info, 64)
	if err != nil {
		t.Fatal(err)
	}
	return string(out)
}

func TestDerive(t *testing.T) {
	for _, secret := range []string{"", "s", text(96), text(128), text(129), text(1000)} {
		for _, preamble := range []string{"", "p", text(63), text(111), text(112), text(5000)} {
			key := reckoned("", secret)
			hand := labelled(t, key, "HandshakeSecret", summed(preamble))
			server := reckoned(labelled(t, hand, "ServerMAC", ""), summed(preamble))
			want := ake.Keys{
				Session:   labelled(t, key, "SessionKey", summed(preamble)),
				ServerMAC: server,
				ClientMAC: reckoned(labelled(t, hand, "ClientMAC", ""), summed(preamble+server)),
			}
			if got := ake.Derive(secret, preamble); got != want {
				t.Errorf("Derive of %d and %d bytes: %x", len(secret), len(preamble), got)
			}
		}
	}
}
