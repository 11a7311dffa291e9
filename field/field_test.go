package field_test

import (
	"math"
	"math/big"
	"math/rand"
	"slices"
	"strings"
	"testing"

	"opaline/api"
	"opaline/field"
)

var (
	one   = big.NewInt(1)
	prime = minus(power(255), big.NewInt(19))
)

const iDigits = "19681161376707505956807079304988542015446066515923890162744021073123829784752"

func power(n uint) *big.Int { return new(big.Int).Lsh(one, n) }

func minus(x, y *big.Int) *big.Int { return new(big.Int).Sub(x, y) }

func mod(x *big.Int) *big.Int { return new(big.Int).Mod(x, prime) }

// bytesOf is the 32 bytes of a number below 2^256, the lowest first.
func bytesOf(n *big.Int) api.Bytes {
	var b api.Bytes
	n.FillBytes(b[:])
	slices.Reverse(b[:])
	return b
}

func numberOf(b api.Bytes) *big.Int {
	slices.Reverse(b[:])
	return new(big.Int).SetBytes(b[:])
}

// toBig is an Element's number, told by its bytes.
func toBig(x field.Element) *big.Int { return numberOf(x.Bytes()) }

// fromBig is the Element of a number, modulo p.
func fromBig(t *testing.T, n *big.Int) field.Element {
	t.Helper()
	x, e := field.Parse(bytesOf(mod(n)))
	if e != api.OK {
		t.Fatalf("Parse of %d: %v", mod(n), e)
	}
	return x
}

// numbers are the edges, at which carries go over words and over the top, and others by chance.
func numbers(n int) []*big.Int {
	var l []*big.Int
	for i := range int64(40) {
		l = append(l, big.NewInt(i), minus(prime, big.NewInt(i+1)))
	}
	for _, n := range []uint{51, 63, 64, 102, 127, 128, 153, 191, 192, 204, 251, 252, 253, 254} {
		l = append(l, power(n), minus(power(n), one), minus(prime, power(n)))
	}
	i, _ := new(big.Int).SetString(iDigits, 10)
	half := new(big.Int).Rsh(prime, 1)
	l = append(l, i, minus(prime, i), half, new(big.Int).Add(half, one))
	r := rand.New(rand.NewSource(1))
	words := []uint64{0, 1, 18, 19, 20, 1 << 63, 1<<63 - 1, math.MaxUint64, math.MaxUint64 - 18, math.MaxUint64 - 19}
	for len(l) < n {
		x := new(big.Int)
		for range 4 {
			w := r.Uint64()
			if r.Intn(2) == 0 {
				w = words[r.Intn(len(words))]
			}
			x.Lsh(x, 64).Or(x, new(big.Int).SetUint64(w))
		}
		l = append(l, mod(x))
	}
	return l
}

func elements(t *testing.T, n int) []field.Element {
	t.Helper()
	var l []field.Element
	for _, x := range numbers(n) {
		l = append(l, fromBig(t, x))
	}
	return l
}

func same(t *testing.T, what string, x field.Element, want *big.Int) {
	t.Helper()
	if x.Bytes() != bytesOf(want) {
		t.Errorf("%s: %d, wanted %d", what, toBig(x), want)
	}
}

func TestOf(t *testing.T) {
	for _, n := range []uint64{0, 1, 2, 19, 1<<51 - 1, 1 << 51, 1 << 63, math.MaxUint64} {
		same(t, "Of", field.Of(n), new(big.Int).SetUint64(n))
	}
}

func TestDecimal(t *testing.T) {
	for _, n := range numbers(300) {
		same(t, "Decimal", field.Decimal(n.String()), n)
	}
	last := minus(power(512), one)
	for _, n := range []*big.Int{
		prime, new(big.Int).Add(prime, one), power(255), minus(power(256), one), power(256),
		new(big.Int).Mul(prime, prime), new(big.Int).Lsh(prime, 1), power(511), last,
	} {
		same(t, "Decimal of "+n.String(), field.Decimal(n.String()), mod(n))
	}
}

func TestDecimalWrong(t *testing.T) {
	for _, s := range []string{"", "a", "01", "00", "-1", "+1", " 1", "1 ", "1.0", "0x1", power(512).String(), strings.Repeat("9", 1000)} {
		if x := field.Decimal(s); !x.Zero() || x != (field.Element{}) {
			t.Errorf("Decimal(%q): %d", s, toBig(x))
		}
	}
}

func TestParse(t *testing.T) {
	for _, n := range numbers(2000) {
		x, e := field.Parse(bytesOf(n))
		if e != api.OK || x.Bytes() != bytesOf(n) {
			t.Errorf("Parse of %d: %d, %v", n, toBig(x), e)
		}
	}
}

// beyond are the numbers of 32 bytes that aren't below p: all up to 2^255, and some with the highest bit.
func beyond() []*big.Int {
	var l []*big.Int
	for i := range int64(19) {
		l = append(l, new(big.Int).Add(prime, big.NewInt(i)))
	}
	for _, n := range numbers(300) {
		l = append(l, new(big.Int).Add(power(255), n))
	}
	return append(l, minus(power(256), one), minus(power(256), big.NewInt(19)), minus(power(256), big.NewInt(38)))
}

func TestParseRange(t *testing.T) {
	for _, n := range beyond() {
		if x, e := field.Parse(bytesOf(n)); e != api.ErrRange || x != (field.Element{}) {
			t.Errorf("Parse of %d: %d, %v", n, toBig(x), e)
		}
	}
}

func TestLoose(t *testing.T) {
	for _, n := range append(numbers(2000), beyond()...) {
		low := new(big.Int).SetBit(n, 255, 0)
		same(t, "Loose", field.Loose(bytesOf(n)), mod(low))
	}
}

func TestBytesAreThoseOfTheNumber(t *testing.T) {
	if b := field.Of(258).Bytes(); b != (api.Bytes{2, 1}) {
		t.Errorf("Bytes of 258: %x", b)
	}
	if b := field.Of(1).Neg().Bytes(); b != (bytesOf(minus(prime, one))) || b[0] != 0xec || b[31] != 0x7f {
		t.Errorf("Bytes of p - 1: %x", b)
	}
	if b := (field.Element{}).Bytes(); b != (api.Bytes{}) {
		t.Errorf("Bytes of 0: %x", b)
	}
}

// TestOneNumberOneElement: however a number came about, it is one Element.
func TestOneNumberOneElement(t *testing.T) {
	for _, n := range numbers(500) {
		x := fromBig(t, n)
		ways := []field.Element{
			field.Decimal(n.String()), field.Loose(bytesOf(n)), x.Neg().Neg(),
			x.Add(field.Of(0)), x.Sub(field.Of(0)), x.Mul(field.Of(1)), field.Decimal(new(big.Int).Add(n, prime).String()),
			field.Of(7).Add(x).Sub(field.Of(7)),
		}
		for i, y := range ways {
			if x != y || !x.Same(y) || !y.Same(x) {
				t.Errorf("%d, by way %d: %d", n, i, toBig(y))
			}
		}
	}
}

func TestSameNegativeZeroAbs(t *testing.T) {
	l := numbers(400)
	for _, n := range l {
		x := fromBig(t, n)
		if x.Negative() != (n.Bit(0) == 1) || x.Zero() != (n.Sign() == 0) {
			t.Errorf("%d: Negative %v, Zero %v", n, x.Negative(), x.Zero())
		}
		want := n
		if n.Bit(0) == 1 {
			want = minus(prime, n)
		}
		same(t, "Abs", x.Abs(), want)
		if x.Abs().Negative() || !x.Neg().Abs().Same(x.Abs()) {
			t.Errorf("Abs of %d", n)
		}
	}
	for _, n := range l[:150] {
		for _, m := range l[:150] {
			if fromBig(t, n).Same(fromBig(t, m)) != (n.Cmp(m) == 0) {
				t.Errorf("Same of %d and %d", n, m)
			}
		}
	}
}

func TestI(t *testing.T) {
	if !field.I().Same(field.Decimal(iDigits)) || field.I().Negative() {
		t.Errorf("I: %d", toBig(field.I()))
	}
	if !field.I().Square().Same(field.Of(1).Neg()) {
		t.Error("I isn't a root of -1")
	}
}

func TestFold(t *testing.T) {
	never := func(x, y field.Element) field.Element {
		t.Error("Fold asks op of fewer than two")
		return x
	}
	if x := field.Fold(never); x != (field.Element{}) {
		t.Errorf("Fold of none: %d", toBig(x))
	}
	if x := field.Fold(never, []field.Element{}...); !x.Zero() {
		t.Errorf("Fold of an empty list: %d", toBig(x))
	}
	if x := field.Fold(never, field.Of(5)); !x.Same(field.Of(5)) {
		t.Errorf("Fold of one: %d", toBig(x))
	}
	// Taking off is neither turned about nor put together at will, so that it tells the order.
	same(t, "Fold of Sub", field.Fold(field.Element.Sub, field.Of(100), field.Of(10), field.Of(7)), big.NewInt(83))
	same(t, "Fold of Add", field.Fold(field.Element.Add, field.Of(1), field.Of(2), field.Of(3), field.Of(4)), big.NewInt(10))
	same(t, "Fold of Mul", field.Fold(field.Element.Mul, field.Of(2), field.Of(3), field.Of(7)), big.NewInt(42))
}

func TestFoldKeepsItsList(t *testing.T) {
	all := []field.Element{field.Of(1), field.Of(2), field.Of(3), field.Of(4)}
	was := slices.Clone(all)
	field.Fold(field.Element.Mul, all[:2]...)
	if !slices.Equal(all, was) {
		t.Error("Fold changes its list, or the room behind it")
	}
}
