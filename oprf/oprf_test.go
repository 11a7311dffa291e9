package oprf_test

import (
	"crypto/sha512"
	"encoding/binary"
	"encoding/hex"
	"math/rand"
	"strings"
	"testing"

	"opaline/api"
	"opaline/oprf"
	"opaline/ristretto"
	"opaline/scalar"
)

const most = 65535 // bytes of an input

func unhex(t *testing.T, s string) string {
	t.Helper()
	b, err := hex.DecodeString(s)
	if err != nil {
		t.Fatal(err)
	}
	return string(b)
}

func bytesOf(t *testing.T, s string) api.Bytes {
	t.Helper()
	return api.Bytes([]byte(unhex(t, s)))
}

func scalarOf(t *testing.T, s string) scalar.Scalar {
	t.Helper()
	a, e := scalar.Parse(bytesOf(t, s))
	if e != api.OK {
		t.Fatal(e)
	}
	return a
}

// text is n bytes, of which neighbours are unlike.
func text(n int) string {
	out := make([]byte, n)
	for i := range out {
		out[i] = byte(i*7 + i>>8 + 3)
	}
	return string(out)
}

// scalars are some at the ends, and some by chance, always the same ones; none is 0.
func scalars(t *testing.T, n int) []scalar.Scalar {
	t.Helper()
	l := []scalar.Scalar{scalar.Of(1), scalar.Of(2), scalar.Of(1).Neg(), scalar.Of(2).Neg(), scalar.Of(2).Invert(), scalar.Of(1<<64 - 1)}
	r := rand.New(rand.NewSource(1))
	for len(l) < n {
		var b [64]byte
		r.Read(b[:])
		a, e := scalar.Wide(string(b[:]))
		if e != api.OK {
			t.Fatal(e)
		}
		l = append(l, a)
	}
	return l
}

func counted(s string) string {
	return string(binary.BigEndian.AppendUint16(nil, uint16(len(s)))) + s
}

// outputOf is RFC 9497's output of an input and an element, by the library.
func outputOf(input string, e ristretto.Element) string {
	b := e.Bytes()
	sum := sha512.Sum512([]byte(counted(input) + counted(string(b[:])) + "Finalize"))
	return string(sum[:])
}

// noElements are bytes that are none: not below p, negative, without a root.
var noElements = []string{
	"00ffffffffffffffffffffffffffffffffffffffffffffffffffffffffffffff",
	"edffffffffffffffffffffffffffffffffffffffffffffffffffffffffffff7f",
	"0100000000000000000000000000000000000000000000000000000000000000",
	"26948d35ca62e643e26a83177332e6b6afeb9d08e4268b650f1f5bbd8d81d371",
	"e2f2ae0a6abc4e71a884a961c500515f58e30b6aa582dd8db6a65945e08d2df6",
}

// TestPublished: the vectors of RFC 9497, A.1.1.
func TestPublished(t *testing.T) {
	key, public, e := oprf.Derive(strings.Repeat("\xa3", 32), "test key")
	if want := scalarOf(t, "5ebcea5ee37023ccb9fc2d2019f9d7737be85591ae8652ffa9ef0f4d37063b0e"); e != api.OK || key != want {
		t.Fatalf("Derive: %x, %v", key.Bytes(), e)
	}
	if !public.Same(ristretto.Base().Times(key)) {
		t.Errorf("Derive's element: %x", public.Bytes())
	}
	blind := scalarOf(t, "64d37aed22a27f5191de1c1d69fadb899d8862b58eb4220029e036ec4c1f6706")
	for _, c := range []struct{ input, blinded, evaluated, output string }{
		{"00",
			"609a0ae68c15a3cf6903766461307e5c8bb2f95e7e6550e1ffa2dc99e412803c",
			"7ec6578ae5120958eb2db1745758ff379e77cb64fe77b0b2d8cc917ea0869c7e",
			"527759c3d9366f277d8c6020418d96bb393ba2afb20ff90df23fb7708264e2f3ab9135e3bd69955851de4b1f9fe8a0973396719b7912ba9ee8aa7d0b5e24bcf6"},
		{"5a5a5a5a5a5a5a5a5a5a5a5a5a5a5a5a5a",
			"da27ef466870f5f15296299850aa088629945a17d1f5b7f5ff043f76b3c06418",
			"b4cbf5a4f1eeda5a63ce7b77c7d23f461db3fcab0dd28e4e17cecb5c90d02c25",
			"f4a74c9c592497375e796aa837e907b1a045d34306a749db9f34221f7e750cb4f2a6413a6bf6fa5e19ba6348eb673934a722a7ede2e7621306d18951e7cf2c73"},
	} {
		input := unhex(t, c.input)
		blinded, e := oprf.Blind(input, blind)
		if e != api.OK || blinded.Bytes() != bytesOf(t, c.blinded) {
			t.Errorf("Blind of %s: %x, %v", c.input, blinded.Bytes(), e)
		}
		evaluated, e := oprf.Evaluate(key, bytesOf(t, c.blinded))
		if e != api.OK || evaluated != bytesOf(t, c.evaluated) {
			t.Errorf("Evaluate of %s: %x, %v", c.input, evaluated, e)
		}
		got, e := oprf.Finalize(input, blind, bytesOf(t, c.evaluated))
		if e != api.OK || got != unhex(t, c.output) {
			t.Errorf("Finalize of %s: %x, %v", c.input, got, e)
		}
		if got, e := oprf.Whole(key, input); e != api.OK || got != unhex(t, c.output) {
			t.Errorf("Whole of %s: %x, %v", c.input, got, e)
		}
	}
}

func TestBlind(t *testing.T) {
	for _, input := range []string{"", "pw", text(64), text(most)} {
		hashed, e := oprf.HashToGroup(input)
		if e != api.OK {
			t.Fatal(e)
		}
		for i, blind := range scalars(t, 10) {
			if got, e := oprf.Blind(input, blind); e != api.OK || !got.Same(hashed.Times(blind)) {
				t.Errorf("Blind of %d bytes, by %d: %x, %v", len(input), i, got.Bytes(), e)
			}
		}
	}
}

func TestBlindWrong(t *testing.T) {
	for _, c := range []struct {
		n     int
		blind uint64
		want  api.Errno
	}{
		{0, 0, api.ErrZero},
		{2, 0, api.ErrZero},
		{most, 0, api.ErrZero},
		{most + 1, 7, api.ErrLong},
		{1 << 20, 7, api.ErrLong},
		// The input's error is named ahead of the blind's.
		{most + 1, 0, api.ErrLong},
	} {
		if got, e := oprf.Blind(text(c.n), scalar.Of(c.blind)); e != c.want || got != (ristretto.Element{}) {
			t.Errorf("Blind of %d bytes, by %d: %v", c.n, c.blind, e)
		}
		if got, e := oprf.Whole(scalar.Of(c.blind), text(c.n)); e != c.want || got != "" {
			t.Errorf("Whole of %d bytes, by %d: %x, %v", c.n, c.blind, got, e)
		}
	}
}

func TestEvaluate(t *testing.T) {
	elements := []ristretto.Element{ristretto.Base(), ristretto.Base().Neg(), ristretto.Half(api.Bytes{5}), ristretto.Half(api.Bytes{9})}
	for i, element := range elements {
		for j, key := range scalars(t, 10) {
			if got, e := oprf.Evaluate(key, element.Bytes()); e != api.OK || got != element.Times(key).Bytes() {
				t.Errorf("Evaluate of %d, by %d: %x, %v", i, j, got, e)
			}
		}
	}
}

func TestEvaluateWrong(t *testing.T) {
	base := ristretto.Base().Bytes()
	if got, e := oprf.Evaluate(scalar.Of(0), base); e != api.ErrZero || got != (api.Bytes{}) {
		t.Errorf("Evaluate by 0: %x, %v", got, e)
	}
	for _, key := range []uint64{0, 1, 9} {
		if got, e := oprf.Evaluate(scalar.Of(key), api.Bytes{}); e != api.ErrZero || got != (api.Bytes{}) {
			t.Errorf("Evaluate of the identity, by %d: %x, %v", key, got, e)
		}
		// That there is no element is named ahead of a key of 0.
		for _, s := range noElements {
			if got, e := oprf.Evaluate(scalar.Of(key), bytesOf(t, s)); e != api.ErrPoint || got != (api.Bytes{}) {
				t.Errorf("Evaluate of %s, by %d: %x, %v", s, key, got, e)
			}
		}
	}
}

func TestFinalize(t *testing.T) {
	evaluated := ristretto.Half(api.Bytes{5})
	for _, input := range []string{"", "pw", text(300), text(most)} {
		for i, blind := range scalars(t, 10) {
			want := outputOf(input, evaluated.Times(blind.Invert()))
			got, e := oprf.Finalize(input, blind, evaluated.Bytes())
			if e != api.OK || got != want || len(got) != 64 {
				t.Errorf("Finalize of %d bytes, by %d: %x, %v", len(input), i, got, e)
			}
		}
	}
}

func TestFinalizeWrong(t *testing.T) {
	base, none := ristretto.Base().Bytes(), bytesOf(t, noElements[3])
	for _, c := range []struct {
		n         int
		blind     uint64
		evaluated api.Bytes
		want      api.Errno
	}{
		{most + 1, 7, base, api.ErrLong},
		{1 << 20, 7, base, api.ErrLong},
		{2, 0, base, api.ErrZero},
		{most, 0, base, api.ErrZero},
		{2, 7, api.Bytes{}, api.ErrZero},
		{2, 7, none, api.ErrPoint},
		{most, 7, none, api.ErrPoint},
		// The input's error is named first, then the blind's, then that of what was evaluated.
		{most + 1, 0, base, api.ErrLong},
		{most + 1, 7, none, api.ErrLong},
		{most + 1, 0, none, api.ErrLong},
		{most + 1, 7, api.Bytes{}, api.ErrLong},
		{2, 0, none, api.ErrZero},
		{2, 0, api.Bytes{}, api.ErrZero},
	} {
		if got, e := oprf.Finalize(text(c.n), scalar.Of(c.blind), c.evaluated); e != c.want || got != "" {
			t.Errorf("Finalize of %d bytes, by %d, of %x: %x, %v", c.n, c.blind, c.evaluated, got, e)
		}
	}
	for _, s := range noElements {
		if got, e := oprf.Finalize("pw", scalar.Of(7), bytesOf(t, s)); e != api.ErrPoint || got != "" {
			t.Errorf("Finalize of %s: %x, %v", s, got, e)
		}
	}
}

func TestWhole(t *testing.T) {
	for _, input := range []string{"", "pw", text(300), text(most)} {
		hashed, _ := oprf.HashToGroup(input)
		for i, key := range scalars(t, 10) {
			got, e := oprf.Whole(key, input)
			if e != api.OK || got != outputOf(input, hashed.Times(key)) || len(got) != 64 {
				t.Errorf("Whole of %d bytes, by %d: %x, %v", len(input), i, got, e)
			}
		}
	}
}

// TestAnyBlind: blinded, evaluated and finalized it is Whole's; what is blinded differs.
func TestAnyBlind(t *testing.T) {
	l := scalars(t, 24)
	for i, blind := range l {
		key, input := l[(i*5+3)%len(l)], text(i*3)
		blinded, e := oprf.Blind(input, blind)
		if e != api.OK {
			t.Fatal(e)
		}
		evaluated, e := oprf.Evaluate(key, blinded.Bytes())
		if e != api.OK {
			t.Fatal(e)
		}
		got, e := oprf.Finalize(input, blind, evaluated)
		if e != api.OK {
			t.Fatal(e)
		}
		if want, e := oprf.Whole(key, input); e != api.OK || got != want {
			t.Errorf("by the blind %d: %x, wanted %x", i, got, want)
		}
		if other, e := oprf.Finalize(input+"\x00", blind, evaluated); e != api.OK || other == got {
			t.Errorf("by the blind %d: another input makes no difference", i)
		}
		if other, e := oprf.Finalize(input, blind.Add(blind), evaluated); e != api.OK || other == got {
			t.Errorf("by the blind %d: another blind makes no difference", i)
		}
	}
}
