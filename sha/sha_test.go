package sha_test

import (
	"crypto/sha512"
	"encoding/hex"
	"math"
	"math/big"
	"slices"
	"strings"
	"testing"

	"opaline/api"
	"opaline/sha"
)

// text is n bytes, no two blocks of which are alike.
func text(n int) string {
	out := make([]byte, n)
	for i := range out {
		out[i] = byte(i*i + i>>7 + 3)
	}
	return string(out)
}

func TestSumKnown(t *testing.T) {
	known := map[string]string{
		"": "cf83e1357eefb8bdf1542850d66d8007d620e4050b5715dc83f4a921d36ce9ce" +
			"47d0d13c5d85f2b0ff8318d2877eec2f63b931bd47417a81a538327af927da3e",
		"abc": "ddaf35a193617abacc417349ae20413112e6fa4e89a97ea20a9eeee64b55d39a" +
			"2192992a274fc1a836ba3c23a3feebbd454d4423643ce80e2a9ac94fa54ca49f",
		"abcdefghbcdefghicdefghijdefghijkefghijklfghijklmghijklmnhijklmnoijklmnopjklmnopqklmnopqrlmnopqrsmnopqrstnopqrstu": "" +
			"8e959b75dae313da8cf4f72814fc143f8f7779c6eb9f7fa17299aeadb6889018" +
			"501d289e4900f7e4331b99dec4b5433ac7d329eeb6dd26545e96e55b874be909",
	}
	for s, want := range known {
		sum := sha.Sum(s)
		if got := hex.EncodeToString(sum[:]); got != want {
			t.Errorf("Sum(%q): %s", s, got)
		}
	}
}

// TestSumLengths goes over all ends of the first blocks: 111 and 112 bytes, 127 and 128, and on.
func TestSumLengths(t *testing.T) {
	lengths := []int{1000, 4095, 4096, 4097, 65535, 65536, 1000003}
	for n := range 520 {
		lengths = append(lengths, n)
	}
	for _, n := range lengths {
		s := text(n)
		if sha.Sum(s) != api.Sum(sha512.Sum512([]byte(s))) {
			t.Errorf("Sum of %d bytes", n)
		}
	}
}

func TestSumOfNone(t *testing.T) {
	if sha.Sum() != api.Sum(sha512.Sum512(nil)) || sha.Sum() != sha.Sum("", "", "") {
		t.Error("Sum of no parts")
	}
}

func TestSumOfCuts(t *testing.T) {
	for _, n := range []int{0, 1, 2, 111, 112, 127, 128, 129, 240, 256, 300} {
		s := text(n)
		want := sha.Sum(s)
		for i := range n + 1 {
			if sha.Sum(s[:i], s[i:]) != want || sha.Sum("", s[:i/2], s[i/2:i], "", s[i:]) != want {
				t.Errorf("Sum of %d bytes, cut at %d", n, i)
			}
		}
		if sha.Sum(strings.Split(s, "")...) != want {
			t.Errorf("Sum of %d bytes, one by one", n)
		}
	}
}

// rootBits is the first 64 bits behind the point of n's cube root.
func rootBits(n int64) uint64 {
	scaled := new(big.Int).Lsh(big.NewInt(n), 192)
	root := new(big.Int)
	for i := 70; i >= 0; i-- {
		more := new(big.Int).SetBit(root, i, 1)
		if new(big.Int).Exp(more, big.NewInt(3), nil).Cmp(scaled) <= 0 {
			root = more
		}
	}
	return root.And(root, new(big.Int).SetUint64(math.MaxUint64)).Uint64()
}

func TestKey(t *testing.T) {
	i := 0
	for n := int64(2); i < 80; n++ {
		if !big.NewInt(n).ProbablyPrime(0) {
			continue
		}
		if got := sha.Key(i); got != rootBits(n) {
			t.Errorf("Key(%d): %x", i, got)
		}
		i++
	}
	if sha.Key(0) != 0x428a2f98d728ae22 || sha.Key(79) != 0x6c44198c4a475817 {
		t.Error("the first, or the last")
	}
}

func TestKeyOfOthers(t *testing.T) {
	for _, i := range []int{-1, -80, math.MinInt, 80, 81, 1000, math.MaxInt} {
		if got := sha.Key(i); got != 0 {
			t.Errorf("Key(%d): %x", i, got)
		}
	}
}

func TestShort(t *testing.T) {
	all := sha512.Sum512([]byte("abc"))
	for n := range 65 {
		if got := sha.Short(n, "a", "", "bc"); got != string(all[:n]) {
			t.Errorf("Short(%d): %x", n, got)
		}
	}
	for _, n := range []int{0, -1, -64, math.MinInt} {
		if got := sha.Short(n, "abc"); got != "" {
			t.Errorf("Short(%d): %x", n, got)
		}
	}
	for _, n := range []int{65, 128, math.MaxInt} {
		if got := sha.Short(n, "abc"); got != string(all[:]) {
			t.Errorf("Short(%d): %x", n, got)
		}
	}
	none := sha512.Sum512(nil)
	if got := sha.Short(3); got != string(none[:3]) {
		t.Errorf("Short of no parts: %x", got)
	}
}

// TestPartsStay hands in a list with spare room: neither it nor what lies behind it may be changed.
func TestPartsStay(t *testing.T) {
	room := []string{text(100), "b", text(200), "behind"}
	before := slices.Clone(room)
	sum, short, counted := sha.Sum(room[:3]...), sha.Short(9, room[:3]...), sha.Counted(room[:3]...)
	if !slices.Equal(room, before) {
		t.Error("the parts were changed")
	}
	if sum != sha.Sum(room[:3]...) || short != sha.Short(9, room[:3]...) || counted != sha.Counted(room[:3]...) {
		t.Error("asked again, it answers another thing")
	}
}
