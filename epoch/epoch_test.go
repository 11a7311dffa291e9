package epoch_test

import (
	"crypto/hkdf"
	"crypto/sha512"
	"encoding/binary"
	"math"
	"strings"
	"testing"

	"opaline/api"
	"opaline/envelope"
	"opaline/epoch"
	"opaline/ristretto"
	"opaline/scalar"
	"opaline/seal"
	"opaline/server"
)

// text is n bytes, of which neighbours are unlike.
func text(n int) string {
	out := make([]byte, n)
	for i := range out {
		out[i] = byte(i*7 + i>>8 + 3)
	}
	return string(out)
}

// draw is 32 bytes, others for each number.
func draw(n int) string { return text(n + 32)[n:] }

// noteOf is the note of a master's number, put together apart from the program.
func noteOf(number uint64) string {
	return string(binary.BigEndian.AppendUint64([]byte("master"), number))
}

func numbers() []uint64 {
	return []uint64{0, 1, 2, 8, 255, 256, 0x0102030405060708, 1 << 63, math.MaxUint64 - 1, math.MaxUint64}
}

func roots() []string { return []string{"", "r", "root", text(64), text(128), text(300)} }

// seeds of a master: chance may give any.
func seeds() []string {
	return []string{draw(0), draw(1), strings.Repeat("\x00", 32), strings.Repeat("\xff", 32)}
}

func TestKeep(t *testing.T) {
	for _, root := range roots() {
		for i, number := range numbers() {
			for _, seed := range seeds() {
				m := epoch.Master{Number: number, Seed: seed}
				want, e := seal.Seal(root, draw(i), noteOf(number), seed)
				if e != api.OK || len(want) != 128 {
					t.Fatalf("Seal: %d bytes, %v", len(want), e)
				}
				if got, e := m.Keep(root, draw(i)); e != api.OK || got != want {
					t.Errorf("Keep of %d by %d bytes: %x, %v", number, len(root), got, e)
				}
				if got, e := epoch.Open(root, number, want); e != api.OK || got != m {
					t.Errorf("Open of %d by %d bytes: %+v, %v", number, len(root), got, e)
				}
			}
		}
	}
}

func TestKeepWrong(t *testing.T) {
	for _, n := range []int{0, 1, 16, 31, 33, 64, 1 << 16, 1<<16 + 1} {
		for what, c := range map[string]struct{ seed, nonce string }{
			"seed":  {text(n), draw(0)},
			"nonce": {draw(0), text(n)},
			"both":  {text(n), text(n)},
		} {
			if got, e := (epoch.Master{Number: 1, Seed: c.seed}).Keep("root", c.nonce); e != api.ErrForm || got != "" {
				t.Errorf("Keep with %d bytes as %s: %d bytes, %v", n, what, len(got), e)
			}
		}
	}
	if got, e := (epoch.Master{}).Keep("", ""); e != api.ErrForm || got != "" {
		t.Errorf("Keep of the zero master: %d bytes, %v", len(got), e)
	}
}

// closed: a master isn't opened, but has that error.
func closed(t *testing.T, what, root string, number uint64, sealed string, want api.Errno) {
	t.Helper()
	if got, e := epoch.Open(root, number, sealed); e != want || got != (epoch.Master{}) {
		t.Errorf("Open of %s: %+v, %v, wanted %v", what, got, e, want)
	}
}

func TestOpenWrong(t *testing.T) {
	m := epoch.Master{Number: 3, Seed: draw(5)}
	sealed, _ := m.Keep("root", draw(6))
	for _, number := range numbers() {
		closed(t, "another number", "root", number, sealed, api.ErrSum)
	}
	closed(t, "one whose number stands the other way round", "root", 3<<56, sealed, api.ErrSum)
	for _, root := range roots() {
		if root != "root" {
			closed(t, "another root's", root, 3, sealed, api.ErrSum)
		}
	}
	for i := range len(sealed) {
		b := []byte(sealed)
		b[i] ^= 1
		closed(t, "a turned byte", "root", 3, string(b), api.ErrSum)
		want := api.ErrSum
		if i < 96 {
			want = api.ErrShort
		}
		closed(t, "too few bytes", "root", 3, sealed[:i], want)
	}
	closed(t, "a byte more", "root", 3, sealed+"\x00", api.ErrSum)
	closed(t, "far too many bytes", "root", 3, text(1<<16+97), api.ErrLong)
}

// TestOpenForm: what was sealed as a master is, but is none.
func TestOpenForm(t *testing.T) {
	for _, n := range []int{0, 1, 31, 33, 64, 1 << 16} {
		sealed, e := seal.Seal("root", draw(0), noteOf(3), text(n))
		if e != api.OK {
			t.Fatal(e)
		}
		closed(t, "a seed of another length", "root", 3, sealed, api.ErrForm)
		closed(t, "a seed of another length, of another number", "root", 4, sealed, api.ErrSum)
	}
	// Another note's seeds are no masters.
	for _, note := range []string{"", "master", noteOf(3) + "\x00", noteOf(3)[:13], "Master" + noteOf(3)[6:], "master3"} {
		sealed, _ := seal.Seal("root", draw(0), note, draw(1))
		closed(t, "another note", "root", 3, sealed, api.ErrSum)
	}
}

func TestOwn(t *testing.T) {
	seen := map[scalar.Scalar]string{}
	for _, root := range append(roots(), text(65), "Root", "ServerKey") {
		seed, err := hkdf.Expand(sha512.New, []byte(root), "ServerKey", 32)
		if err != nil {
			t.Fatal(err)
		}
		want, public, e := envelope.Keys(string(seed))
		if e != api.OK {
			t.Fatal(e)
		}
		own, element, e := epoch.Own(root)
		if e != api.OK || own != want || element != public {
			t.Errorf("Own of %d bytes: %v", len(root), e)
		}
		if element != ristretto.Base().Times(own).Bytes() || own.Zero() {
			t.Errorf("Own of %d bytes: the element isn't the number's", len(root))
		}
		if other, is := seen[own]; is {
			t.Errorf("Own of %q is that of %q", root, other)
		}
		seen[own] = root
	}
}

// names are names that may be.
func names() []string {
	return []string{"alice", "bob", "a", "\x00", "é", "OprfKey", text(63), text(64)}
}

// wrongNames are those that no account may have.
func wrongNames() map[string]api.Errno {
	return map[string]api.Errno{
		"":             api.ErrShort,
		text(65):       api.ErrLong,
		text(64 + 256): api.ErrLong,
		text(1 << 16):  api.ErrLong,
	}
}

// deltas are numbers by which keys are multiplied.
func deltas() []scalar.Scalar {
	return []scalar.Scalar{scalar.Of(1), scalar.Of(2), scalar.Of(math.MaxUint64), scalar.Of(1).Neg(), scalar.Of(3).Invert()}
}

func TestMasterKey(t *testing.T) {
	for _, seed := range seeds() {
		for _, name := range names() {
			first, e := server.Key(seed, name)
			if e != api.OK {
				t.Fatal(e)
			}
			for _, delta := range deltas() {
				// Its number is nothing to the key.
				for _, number := range []uint64{0, 1, math.MaxUint64} {
					got, e := epoch.Master{Number: number, Seed: seed}.Key(name, delta)
					if e != api.OK || got != first.Mul(delta) {
						t.Errorf("Key of %q: %v", name, e)
					}
				}
			}
			if got, e := (epoch.Master{Number: 1, Seed: seed}).Key(name, scalar.Of(0)); e != api.OK || !got.Zero() {
				t.Errorf("Key of %q by a Delta of 0: %v", name, e)
			}
		}
	}
}

func TestMasterKeyWrong(t *testing.T) {
	for name, want := range wrongNames() {
		for _, delta := range append(deltas(), scalar.Of(0)) {
			if got, e := (epoch.Master{Number: 1, Seed: draw(1)}).Key(name, delta); e != want || got != (scalar.Scalar{}) {
				t.Errorf("Key of %d bytes: %v", len(name), e)
			}
		}
	}
}
