package envelope_test

import (
	"encoding/binary"
	"strings"
	"testing"

	"opaline/api"
	"opaline/envelope"
)

const mostIdentity = 65535

func counted(s string) string {
	return string(binary.BigEndian.AppendUint16(nil, uint16(len(s)))) + s
}

// key is an element's bytes, or looks like it: layer 12 takes any.
func key(from byte) api.Bytes {
	var b api.Bytes
	for i := range b {
		b[i] = from + byte(3*i)
	}
	return b
}

func str(b api.Bytes) string { return string(b[:]) }

func TestClear(t *testing.T) {
	server, client := key(1), key(2)
	for _, c := range []struct{ serverID, clientID, want string }{
		{"", "", counted(str(server)) + counted(str(client))},
		{"bob", "", "\x00\x03bob" + counted(str(client))},
		{"", "alice", counted(str(server)) + "\x00\x05alice"},
		{"bob", "alice", "\x00\x03bob\x00\x05alice"},
		{"\x00", "\x00", "\x00\x01\x00\x00\x01\x00"},
		{text(256), text(257), "\x01\x00" + text(256) + "\x01\x01" + text(257)},
		{text(mostIdentity), text(mostIdentity), "\xff\xff" + text(mostIdentity) + "\xff\xff" + text(mostIdentity)},
		// The key that an empty identity stands for, named as one, is the same.
		{str(server), str(client), counted(str(server)) + counted(str(client))},
	} {
		if got, e := envelope.Clear(server, client, c.serverID, c.clientID); e != api.OK || got != str(server)+c.want {
			t.Errorf("Clear of %d and %d bytes: %x, %v", len(c.serverID), len(c.clientID), got, e)
		}
	}
}

func TestClearWrong(t *testing.T) {
	for _, c := range []struct{ server, client int }{
		{mostIdentity + 1, 0}, {0, mostIdentity + 1}, {mostIdentity + 1, mostIdentity + 1},
		{mostIdentity, mostIdentity + 1}, {1 << 20, 3}, {3, 1<<16 + 3},
	} {
		if got, e := envelope.Clear(key(1), key(2), text(c.server), text(c.client)); e != api.ErrLong || got != "" {
			t.Errorf("Clear of %d and %d bytes: %x, %v", c.server, c.client, got, e)
		}
	}
}

// storedOf is what Store answers, by the chapter's words and the library; but for keys, which have tests of their own.
func storedOf(t *testing.T, password, nonce string, server api.Bytes, serverID, clientID string) envelope.Opened {
	t.Helper()
	secret, public, e := envelope.Keys(expanded(t, password, nonce+"PrivateKey", 32))
	if e != api.OK {
		t.Fatal(e)
	}
	if serverID == "" {
		serverID = str(server)
	}
	if clientID == "" {
		clientID = str(public)
	}
	auth := expanded(t, password, nonce+"AuthKey", 64)
	sum := reckoned(auth, nonce+str(server)+counted(serverID)+counted(clientID))
	return envelope.Opened{Public: public, Secret: secret, Export: expanded(t, password, nonce+"ExportKey", 64), Envelope: nonce + sum}
}

func TestStore(t *testing.T) {
	nonces := []string{text(32), strings.Repeat("\x00", 32), strings.Repeat("\xff", 32)}
	for i, password := range []string{"", "password", text(64), text(128), text(129)} {
		for j, id := range []string{"", "bob", text(mostIdentity)} {
			nonce, server, other := nonces[(i+j)%3], key(byte(i)), text((i*11)%23)
			want := storedOf(t, password, nonce, server, id, other)
			got, e := envelope.Store(password, nonce, server, id, other)
			if e != api.OK || got != want || len(got.Envelope) != 96 || len(got.Export) != 64 {
				t.Errorf("Store by %d bytes, identities of %d and %d: %v", len(password), len(id), len(other), e)
			}
			if got, e := envelope.Recover(password, want.Envelope, server, id, other); e != api.OK || got != want {
				t.Errorf("Recover by %d bytes, identities of %d and %d: %v", len(password), len(id), len(other), e)
			}
		}
	}
}

func TestStoreWrong(t *testing.T) {
	for _, c := range []struct {
		nonce, server, client int
		want                  api.Errno
	}{
		{0, 3, 5, api.ErrForm},
		{1, 3, 5, api.ErrForm},
		{31, 0, 0, api.ErrForm},
		{33, 3, 5, api.ErrForm},
		{64, 3, 5, api.ErrForm},
		{96, 3, 5, api.ErrForm},
		{32, mostIdentity + 1, 5, api.ErrLong},
		{32, 3, mostIdentity + 1, api.ErrLong},
		{32, 0, 1 << 20, api.ErrLong},
		// The nonce's error is named ahead of Clear's.
		{31, mostIdentity + 1, 5, api.ErrForm},
		{0, 3, mostIdentity + 1, api.ErrForm},
	} {
		got, e := envelope.Store("pw", text(c.nonce), key(1), text(c.server), text(c.client))
		if e != c.want || got != (envelope.Opened{}) {
			t.Errorf("Store with a nonce of %d, identities of %d and %d: %v", c.nonce, c.server, c.client, e)
		}
	}
}

func TestRecoverWrong(t *testing.T) {
	for _, c := range []struct {
		envelope, server, client int
		want                     api.Errno
	}{
		{0, 3, 5, api.ErrForm},
		{32, 3, 5, api.ErrForm},
		{64, 3, 5, api.ErrForm},
		{95, 3, 5, api.ErrForm},
		{97, 3, 5, api.ErrForm},
		{192, 3, 5, api.ErrForm},
		{96, mostIdentity + 1, 5, api.ErrLong},
		{96, 3, mostIdentity + 1, api.ErrLong},
		{96, 3, 5, api.ErrOpen},
		// The envelope's length is named ahead of Store's errors.
		{95, mostIdentity + 1, 5, api.ErrForm},
		{97, 3, mostIdentity + 1, api.ErrForm},
	} {
		got, e := envelope.Recover("pw", text(c.envelope), key(1), text(c.server), text(c.client))
		if e != c.want || got != (envelope.Opened{}) {
			t.Errorf("Recover of %d bytes, identities of %d and %d: %v", c.envelope, c.server, c.client, e)
		}
	}
}

// TestRecoverTurned turns each bit of an envelope, one by one.
func TestRecoverTurned(t *testing.T) {
	stored, _ := envelope.Store("pw", text(32), key(1), "bob", "alice")
	for i := range len(stored.Envelope) * 8 {
		turned := []byte(stored.Envelope)
		turned[i/8] ^= 1 << (i % 8)
		if got, e := envelope.Recover("pw", string(turned), key(1), "bob", "alice"); e != api.ErrOpen || got != (envelope.Opened{}) {
			t.Errorf("Recover with the bit %d turned: %v", i, e)
		}
	}
}

// TestRecoverOther: by another password, server or identity it isn't recovered.
func TestRecoverOther(t *testing.T) {
	stored, _ := envelope.Store("pw", text(32), key(1), "bob", "alice")
	for _, c := range []struct {
		password           string
		server             api.Bytes
		serverID, clientID string
	}{
		{"px", key(1), "bob", "alice"},
		{"", key(1), "bob", "alice"},
		{"pw ", key(1), "bob", "alice"},
		{"pw", key(2), "bob", "alice"},
		{"pw", api.Bytes{}, "bob", "alice"},
		{"pw", key(1), "", "alice"},
		{"pw", key(1), "bo", "alice"},
		{"pw", key(1), "bob", ""},
		{"pw", key(1), "bob", "Alice"},
		{"pw", key(1), "bob", "alice\x00"},
		{"pw", key(1), "alice", "bob"},
		{"pw", key(1), "boba", "lice"},
		{"pw", key(1), "bob\x00\x05alice", ""},
	} {
		got, e := envelope.Recover(c.password, stored.Envelope, c.server, c.serverID, c.clientID)
		if e != api.ErrOpen || got != (envelope.Opened{}) {
			t.Errorf("Recover by %q, %x, %q, %q: %v", c.password, c.server, c.serverID, c.clientID, e)
		}
	}
	if got, e := envelope.Recover("pw", stored.Envelope, key(1), "bob", "alice"); e != api.OK || got != stored {
		t.Errorf("Recover: %v", e)
	}
}

// TestRecoverNamed: an identity that is the key's bytes is the same as none.
func TestRecoverNamed(t *testing.T) {
	stored, _ := envelope.Store("pw", text(32), key(1), "", "")
	got, e := envelope.Recover("pw", stored.Envelope, key(1), str(key(1)), str(stored.Public))
	if e != api.OK || got != stored {
		t.Errorf("Recover with the keys as identities: %v", e)
	}
}

// TestStoreApart: each nonce, and each password, has keys of its own, whatever the identities; these change the sum alone.
func TestStoreApart(t *testing.T) {
	a, _ := envelope.Store("pw", text(32), key(1), "bob", "alice")
	b, _ := envelope.Store("pw", text(33)[1:], key(1), "bob", "alice")
	c, _ := envelope.Store("px", text(32), key(1), "bob", "alice")
	if a.Public == b.Public || a.Export == b.Export || a.Public == c.Public || a.Export == c.Export {
		t.Error("other nonces or passwords have the same keys")
	}
	d, _ := envelope.Store("pw", text(32), key(2), "", "carol")
	if a.Public != d.Public || a.Secret != d.Secret || a.Export != d.Export || a.Envelope == d.Envelope {
		t.Error("keys hang on the identities, or sums don't")
	}
	again, _ := envelope.Store("pw", text(32), key(1), "bob", "alice")
	if again != a {
		t.Error("Store hangs on something else")
	}
}
