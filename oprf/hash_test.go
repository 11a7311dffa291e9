package oprf_test

import (
	"crypto/sha512"
	"math/big"
	"slices"
	"strings"
	"testing"

	"opaline/api"
	"opaline/oprf"
	"opaline/ristretto"
	"opaline/scalar"
)

const context = "OPRFV1-\x00-ristretto255-SHA512"

// expanded is RFC 9380's 64 bytes of a message, by the library's sums.
func expanded(message, dst string) string {
	mark := dst + string([]byte{byte(len(dst))})
	first := sha512.Sum512([]byte(strings.Repeat("\x00", 128) + message + "\x00\x40\x00" + mark))
	out := sha512.Sum512([]byte(string(first[:]) + "\x01" + mark))
	return string(out[:])
}

// reduced is a number's bytes, modulo the order, by the library.
func reduced(s string) api.Bytes {
	order, _ := new(big.Int).SetString("27742317777372353535851937790883648493", 10)
	order.Add(order, new(big.Int).Lsh(big.NewInt(1), 252))
	l := []byte(s)
	slices.Reverse(l)
	n := new(big.Int).SetBytes(l)
	var b api.Bytes
	n.Mod(n, order).FillBytes(b[:])
	slices.Reverse(b[:])
	return b
}

func TestContext(t *testing.T) {
	if got := oprf.Context(); got != context || len(got) != 28 || got[7] != 0 {
		t.Errorf("Context: %q", got)
	}
}

func TestHashToGroup(t *testing.T) {
	// It is Blind that bounds inputs, not this.
	for _, input := range []string{"", "\x00", "pw", text(64), text(1000), text(65535), text(65536), text(200000)} {
		want, _ := ristretto.Map(expanded(input, "HashToGroup-"+context))
		if got, e := oprf.HashToGroup(input); e != api.OK || !got.Same(want) || got.None() {
			t.Errorf("HashToGroup of %d bytes: %x, %v", len(input), got.Bytes(), e)
		}
	}
}

func TestHashToScalar(t *testing.T) {
	for _, input := range []string{"", "\x00", "pw", text(64), text(70000)} {
		for _, dst := range []string{"", "d", "HashToScalar-", "DeriveKeyPair", text(227)} {
			got, e := oprf.HashToScalar(input, dst)
			if e != api.OK || got.Bytes() != reduced(expanded(input, dst+context)) {
				t.Errorf("HashToScalar of %d bytes, by %d: %x, %v", len(input), len(dst), got.Bytes(), e)
			}
		}
	}
}

func TestHashToScalarWrong(t *testing.T) {
	// With the context's 28 bytes a mark of 227 has 255.
	for _, n := range []int{228, 255, 256, 70000} {
		if got, e := oprf.HashToScalar("pw", text(n)); e != api.ErrLong || got != (scalar.Scalar{}) {
			t.Errorf("HashToScalar by %d bytes: %x, %v", n, got.Bytes(), e)
		}
	}
}

func TestDerive(t *testing.T) {
	for _, seed := range []string{text(32), strings.Repeat("\x00", 32), strings.Repeat("\xff", 32)} {
		for _, info := range []string{"", "info", text(255), text(256), text(65535)} {
			want := reduced(expanded(seed+counted(info)+"\x00", "DeriveKeyPair"+context))
			key, public, e := oprf.Derive(seed, info)
			if e != api.OK || key.Bytes() != want || !public.Same(ristretto.Base().Times(key)) {
				t.Errorf("Derive with an info of %d bytes: %x, %v", len(info), key.Bytes(), e)
			}
		}
	}
}

func TestDeriveWrong(t *testing.T) {
	for _, c := range []struct {
		seed, info int
		want       api.Errno
	}{
		{0, 4, api.ErrForm},
		{1, 4, api.ErrForm},
		{31, 4, api.ErrForm},
		{33, 4, api.ErrForm},
		{64, 0, api.ErrForm},
		{32, 65536, api.ErrLong},
		{32, 1 << 20, api.ErrLong},
		// The seed's error is named ahead of the info's.
		{31, 65536, api.ErrForm},
		{33, 1 << 20, api.ErrForm},
	} {
		key, public, e := oprf.Derive(text(c.seed), text(c.info))
		if e != c.want || key != (scalar.Scalar{}) || public != (ristretto.Element{}) {
			t.Errorf("Derive of %d bytes, with an info of %d: %v", c.seed, c.info, e)
		}
	}
}
