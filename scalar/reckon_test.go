package scalar_test

import (
	"math/big"
	"slices"
	"testing"

	"opaline/scalar"
)

// pairs hands on each edge with each, and others by chance.
func pairs(t *testing.T, f func(a, b scalar.Scalar)) {
	t.Helper()
	few := scalars(t, 100)
	for _, a := range few {
		for _, b := range few {
			f(a, b)
		}
	}
	many := scalars(t, 10000)
	for i, a := range many {
		f(a, many[len(many)-1-i])
	}
}

func TestSumsDifferencesProducts(t *testing.T) {
	type act struct {
		name   string
		scalar func(a, b scalar.Scalar) scalar.Scalar
		big    func(x, y *big.Int) *big.Int
	}
	for _, c := range []act{
		{"Add", scalar.Scalar.Add, plus},
		{"Sub", scalar.Scalar.Sub, minus},
		{"Mul", scalar.Scalar.Mul, times},
	} {
		pairs(t, func(a, b scalar.Scalar) {
			want := mod(c.big(toBig(a), toBig(b)))
			if got := c.scalar(a, b); got.Bytes() != bytesOf(want) {
				t.Fatalf("%d %s %d: %d", toBig(a), c.name, toBig(b), toBig(got))
			}
		})
	}
}

func TestNeg(t *testing.T) {
	for _, n := range numbers(2000) {
		same(t, "Neg", fromBig(t, n).Neg(), mod(new(big.Int).Neg(n)))
	}
	if a := scalar.Of(0).Neg(); a != (scalar.Scalar{}) {
		t.Errorf("Neg of 0: %d", toBig(a))
	}
}

func TestInvert(t *testing.T) {
	for _, n := range numbers(400) {
		a := fromBig(t, n)
		if n.Sign() == 0 {
			if got := a.Invert(); got != (scalar.Scalar{}) {
				t.Errorf("Invert of 0: %d", toBig(got))
			}
			continue
		}
		same(t, "Invert", a.Invert(), new(big.Int).ModInverse(n, order))
		if a.Invert().Mul(a) != scalar.Of(1) {
			t.Errorf("Invert of %d", n)
		}
	}
	if scalar.Of(2).Invert().Mul(scalar.Of(2)) != scalar.Of(1) {
		t.Error("Invert of 2")
	}
}

func TestBits(t *testing.T) {
	for _, n := range numbers(500) {
		bits := slices.Collect(fromBig(t, n).Bits())
		if len(bits) != 253 {
			t.Fatalf("Bits of %d: %d", n, len(bits))
		}
		for i, bit := range bits {
			if bit != n.Bit(252-i) {
				t.Fatalf("Bits of %d, the one at %d: %d", n, i, bit)
			}
		}
	}
	if bits := slices.Collect(scalar.Of(1).Neg().Bits()); bits[0] != 1 {
		t.Error("the highest bit of l - 1")
	}
}

// TestBitsAgain: they may be left anywhere, and gone through again, one within the other too.
func TestBitsAgain(t *testing.T) {
	row := scalar.Of(5).Bits()
	for stop := range 254 {
		n := 0
		for range row {
			if n == stop {
				break
			}
			n++
		}
		if n != min(stop, 253) {
			t.Errorf("left at %d: %d", stop, n)
		}
	}
	for range 2 {
		if bits := slices.Collect(row); len(bits) != 253 || bits[252] != 1 || bits[251] != 0 || bits[250] != 1 {
			t.Errorf("Bits of 5: %v", bits)
		}
	}
	outer := 0
	for range row {
		outer++
		inner := 0
		for range row {
			inner++
		}
		if inner != 253 {
			t.Fatalf("Bits within Bits: %d", inner)
		}
	}
	if outer != 253 {
		t.Errorf("Bits about Bits: %d", outer)
	}
}

func TestProduct(t *testing.T) {
	if a := scalar.Product(); a != scalar.Of(1) {
		t.Errorf("Product of none: %d", toBig(a))
	}
	if a := scalar.Product([]scalar.Scalar{}...); a != scalar.Of(1) {
		t.Errorf("Product of an empty list: %d", toBig(a))
	}
	l := scalars(t, 300)
	want := big.NewInt(1)
	for i, a := range l[1:] {
		want = mod(times(want, toBig(a)))
		same(t, "Product", scalar.Product(l[1:i+2]...), want)
	}
	if a := scalar.Product(scalar.Of(2), scalar.Of(0), scalar.Of(3)); !a.Zero() {
		t.Errorf("Product with 0: %d", toBig(a))
	}
	if a := scalar.Product(scalar.Of(2), scalar.Of(2), scalar.Of(2)); a != scalar.Of(8) {
		t.Errorf("Product of three twos: %d", toBig(a))
	}
}

func TestProductKeepsItsList(t *testing.T) {
	all := []scalar.Scalar{scalar.Of(2), scalar.Of(3), scalar.Of(5)}
	was := slices.Clone(all)
	scalar.Product(all[:2]...)
	if !slices.Equal(all, was) {
		t.Error("Product changes its list, or the room behind it")
	}
}

// TestIsAField: by == alone, without the library's numbers.
func TestIsAField(t *testing.T) {
	l := scalars(t, 3000)
	zero, unit := scalar.Of(0), scalar.Of(1)
	for i, a := range l {
		b, c := l[(i*7+1)%len(l)], l[(i*11+5)%len(l)]
		if a.Add(b) != b.Add(a) || a.Mul(b) != b.Mul(a) {
			t.Fatalf("%d and %d can't be turned about", toBig(a), toBig(b))
		}
		if a.Add(b).Add(c) != a.Add(b.Add(c)) || a.Mul(b).Mul(c) != a.Mul(b.Mul(c)) {
			t.Fatalf("%d, %d and %d can't be put together at will", toBig(a), toBig(b), toBig(c))
		}
		if a.Sub(b).Add(b) != a || a.Add(b).Sub(b) != a || !a.Add(a.Neg()).Zero() {
			t.Fatalf("%d, taken off %d, doesn't come back", toBig(b), toBig(a))
		}
		if a.Mul(b.Add(c)) != a.Mul(b).Add(a.Mul(c)) || a.Mul(b.Sub(c)) != a.Mul(b).Sub(a.Mul(c)) {
			t.Fatalf("%d isn't spread over %d and %d", toBig(a), toBig(b), toBig(c))
		}
		if a.Add(zero) != a || a.Mul(unit) != a || a.Mul(zero) != zero {
			t.Fatalf("%d by 0 and 1", toBig(a))
		}
		if i%20 == 0 && !b.Zero() && a.Mul(b).Mul(b.Invert()) != a {
			t.Fatalf("%d, times %d, doesn't come back", toBig(a), toBig(b))
		}
	}
}
