package scalar_test

import (
	"math"
	"math/big"
	"math/rand"
	"slices"
	"strings"
	"testing"

	"opaline/api"
	"opaline/scalar"
)

var (
	one   = big.NewInt(1)
	order = makeOrder()
)

func makeOrder() *big.Int {
	low, _ := new(big.Int).SetString("27742317777372353535851937790883648493", 10)
	return low.Add(low, power(252))
}

func power(n uint) *big.Int { return new(big.Int).Lsh(one, n) }

func plus(x, y *big.Int) *big.Int { return new(big.Int).Add(x, y) }

func minus(x, y *big.Int) *big.Int { return new(big.Int).Sub(x, y) }

func times(x, y *big.Int) *big.Int { return new(big.Int).Mul(x, y) }

func mod(x *big.Int) *big.Int { return new(big.Int).Mod(x, order) }

// bytesOf is the 32 bytes of a number below 2^256, the lowest first.
func bytesOf(n *big.Int) api.Bytes {
	var b api.Bytes
	n.FillBytes(b[:])
	slices.Reverse(b[:])
	return b
}

// textOf is so many bytes of a number, the lowest first.
func textOf(n *big.Int, size int) string {
	b := n.FillBytes(make([]byte, size))
	slices.Reverse(b)
	return string(b)
}

// toBig is a Scalar's number, told by its bytes.
func toBig(a scalar.Scalar) *big.Int {
	b := a.Bytes()
	slices.Reverse(b[:])
	return new(big.Int).SetBytes(b[:])
}

// fromBig is the Scalar of a number, modulo l.
func fromBig(t *testing.T, n *big.Int) scalar.Scalar {
	t.Helper()
	a, e := scalar.Parse(bytesOf(mod(n)))
	if e != api.OK {
		t.Fatalf("Parse of %d: %v", mod(n), e)
	}
	return a
}

// numbers are the edges, and others by chance.
func numbers(n int) []*big.Int {
	var l []*big.Int
	for i := range int64(25) {
		l = append(l, big.NewInt(i), minus(order, big.NewInt(i+1)))
	}
	for _, n := range []uint{63, 64, 127, 128, 191, 192, 251, 252} {
		l = append(l, power(n), minus(power(n), one), minus(order, power(n)))
	}
	half := new(big.Int).Rsh(order, 1)
	l = append(l, half, plus(half, one))
	r := rand.New(rand.NewSource(1))
	words := []uint64{0, 1, 1 << 63, math.MaxUint64, math.MaxUint64 - 1, 0x5812631a5cf5d3ed, 0x14def9dea2f79cd6}
	for len(l) < n {
		x := new(big.Int)
		for range 4 {
			w := r.Uint64()
			if r.Intn(2) == 0 {
				w = words[r.Intn(len(words))]
			}
			x.Lsh(x, 64).Or(x, new(big.Int).SetUint64(w))
		}
		l = append(l, mod(x))
	}
	return l
}

func scalars(t *testing.T, n int) []scalar.Scalar {
	t.Helper()
	var l []scalar.Scalar
	for _, x := range numbers(n) {
		l = append(l, fromBig(t, x))
	}
	return l
}

func same(t *testing.T, what string, a scalar.Scalar, want *big.Int) {
	t.Helper()
	if a.Bytes() != bytesOf(want) {
		t.Errorf("%s: %d, wanted %d", what, toBig(a), want)
	}
}

func TestOf(t *testing.T) {
	for _, n := range []uint64{0, 1, 2, 258, 1 << 63, math.MaxUint64} {
		same(t, "Of", scalar.Of(n), new(big.Int).SetUint64(n))
	}
	if b := scalar.Of(258).Bytes(); b != (api.Bytes{2, 1}) {
		t.Errorf("Bytes of 258: %x", b)
	}
}

func TestParse(t *testing.T) {
	for _, n := range numbers(2000) {
		a, e := scalar.Parse(bytesOf(n))
		if e != api.OK || a.Bytes() != bytesOf(n) {
			t.Errorf("Parse of %d: %d, %v", n, toBig(a), e)
		}
	}
}

func TestParseRange(t *testing.T) {
	l := []*big.Int{order, plus(order, one), plus(order, big.NewInt(2)), power(253), power(254), power(255), minus(power(256), one)}
	for _, n := range numbers(500) {
		l = append(l, plus(order, n), plus(power(255), n))
	}
	for _, n := range l {
		if a, e := scalar.Parse(bytesOf(n)); e != api.ErrRange || a != (scalar.Scalar{}) {
			t.Errorf("Parse of %d: %d, %v", n, toBig(a), e)
		}
	}
}

func TestWide(t *testing.T) {
	r := rand.New(rand.NewSource(2))
	for size := range 65 {
		most := minus(power(uint(8*size)), one)
		l := []*big.Int{new(big.Int), most}
		for range 20 {
			l = append(l, new(big.Int).Rand(r, plus(most, one)))
		}
		for _, n := range l {
			a, e := scalar.Wide(textOf(n, size))
			if e != api.OK || a.Bytes() != bytesOf(mod(n)) {
				t.Errorf("Wide of %d bytes, of %d: %d, %v", size, n, toBig(a), e)
			}
		}
	}
}

// TestWideAboutOrders goes over numbers close about those into which the order goes without anything left.
func TestWideAboutOrders(t *testing.T) {
	top := new(big.Int).Div(minus(power(512), one), order)
	for _, often := range []*big.Int{one, big.NewInt(2), big.NewInt(16), power(64), power(128), order, minus(top, one), top} {
		at := times(often, order)
		for _, n := range []*big.Int{minus(at, one), at, plus(at, one)} {
			a, e := scalar.Wide(textOf(n, 64))
			if e != api.OK || a.Bytes() != bytesOf(mod(n)) {
				t.Errorf("Wide of %d: %d, %v", n, toBig(a), e)
			}
		}
	}
	if a, e := scalar.Wide(""); e != api.OK || a != (scalar.Scalar{}) {
		t.Errorf("Wide of no bytes: %d, %v", toBig(a), e)
	}
	if a, e := scalar.Wide("\x02\x01"); e != api.OK || a != scalar.Of(258) {
		t.Errorf("Wide of 02 01: %d, %v", toBig(a), e)
	}
}

func TestWideLong(t *testing.T) {
	for _, s := range []string{strings.Repeat("\x00", 65), "\x01" + strings.Repeat("\x00", 64), strings.Repeat("\xff", 65), strings.Repeat("a", 10000)} {
		if a, e := scalar.Wide(s); e != api.ErrLong || a != (scalar.Scalar{}) {
			t.Errorf("Wide of %d bytes: %d, %v", len(s), toBig(a), e)
		}
	}
}

// TestAlike: Go's == tells numbers, however they came about.
func TestAlike(t *testing.T) {
	l := numbers(300)
	for i, n := range l {
		a := fromBig(t, n)
		wide, _ := scalar.Wide(textOf(plus(n, order), 64))
		for k, b := range []scalar.Scalar{
			wide, a.Neg().Neg(), a.Add(scalar.Of(0)), a.Sub(scalar.Of(0)), a.Mul(scalar.Of(1)), scalar.Product(a), a.Invert().Invert(),
			scalar.Of(7).Add(a).Sub(scalar.Of(7)),
		} {
			if a != b {
				t.Errorf("%d, by way %d: %d", n, k, toBig(b))
			}
		}
		for _, m := range l[:i] {
			if (a == fromBig(t, m)) != (n.Cmp(m) == 0) {
				t.Errorf("%d and %d", n, m)
			}
		}
		if a.Zero() != (n.Sign() == 0) || (a == scalar.Scalar{}) != (n.Sign() == 0) {
			t.Errorf("Zero of %d", n)
		}
	}
	if !(scalar.Scalar{}).Zero() || (scalar.Scalar{}) != scalar.Of(0) || (scalar.Scalar{}).Bytes() != (api.Bytes{}) {
		t.Error("the zero Scalar isn't 0")
	}
}
