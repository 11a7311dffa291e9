package field_test

import (
	"math/big"
	"testing"

	"opaline/field"
)

// pairs hands on each edge with each, and others by chance.
func pairs(t *testing.T, f func(x, y field.Element)) {
	t.Helper()
	few := elements(t, 150)
	for _, x := range few {
		for _, y := range few {
			f(x, y)
		}
	}
	many := elements(t, 20000)
	for i, x := range many {
		f(x, many[len(many)-1-i])
	}
}

func TestSumsDifferencesProducts(t *testing.T) {
	type act struct {
		name  string
		field func(x, y field.Element) field.Element
		big   func(x, y *big.Int) *big.Int
	}
	for _, a := range []act{
		{"Add", field.Element.Add, func(x, y *big.Int) *big.Int { return new(big.Int).Add(x, y) }},
		{"Sub", field.Element.Sub, func(x, y *big.Int) *big.Int { return new(big.Int).Sub(x, y) }},
		{"Mul", field.Element.Mul, func(x, y *big.Int) *big.Int { return new(big.Int).Mul(x, y) }},
	} {
		pairs(t, func(x, y field.Element) {
			want := mod(a.big(toBig(x), toBig(y)))
			if got := a.field(x, y); got.Bytes() != bytesOf(want) {
				t.Fatalf("%d %s %d: %d", toBig(x), a.name, toBig(y), toBig(got))
			}
		})
	}
}

func TestNegAndSquare(t *testing.T) {
	for _, n := range numbers(5000) {
		x := fromBig(t, n)
		same(t, "Neg", x.Neg(), mod(new(big.Int).Neg(n)))
		same(t, "Square", x.Square(), mod(new(big.Int).Mul(n, n)))
	}
	if x := field.Of(0).Neg(); x != (field.Element{}) {
		t.Errorf("Neg of 0: %d", toBig(x))
	}
}

func TestInvert(t *testing.T) {
	for _, n := range numbers(800) {
		x := fromBig(t, n)
		if n.Sign() == 0 {
			if got := x.Invert(); got != (field.Element{}) {
				t.Errorf("Invert of 0: %d", toBig(got))
			}
			continue
		}
		same(t, "Invert", x.Invert(), new(big.Int).ModInverse(n, prime))
		if !x.Invert().Mul(x).Same(field.Of(1)) {
			t.Errorf("Invert of %d", n)
		}
	}
	half := new(big.Int).Add(prime, one)
	same(t, "Invert of 2", field.Of(2).Invert(), half.Rsh(half, 1))
}

func TestRoot(t *testing.T) {
	by := minus(prime, big.NewInt(5))
	by.Rsh(by, 3)
	for _, n := range numbers(800) {
		same(t, "Root", fromBig(t, n).Root(), new(big.Int).Exp(n, by, prime))
	}
}

// ratioOf is the root and whether there is one, by the library's own roots.
func ratioOf(u, v *big.Int) (*big.Int, bool) {
	if u.Sign() == 0 || v.Sign() == 0 {
		return new(big.Int), u.Sign() == 0
	}
	quotient := mod(new(big.Int).Mul(u, new(big.Int).ModInverse(v, prime)))
	root := new(big.Int).ModSqrt(quotient, prime)
	found := root != nil
	if !found {
		i, _ := new(big.Int).SetString(iDigits, 10)
		root = new(big.Int).ModSqrt(mod(new(big.Int).Mul(i, quotient)), prime)
	}
	if root.Bit(0) == 1 {
		root = minus(prime, root)
	}
	return root, found
}

func checkRatio(t *testing.T, u, v field.Element) {
	t.Helper()
	got, ok := field.Ratio(u, v)
	want, found := ratioOf(toBig(u), toBig(v))
	if got.Bytes() != bytesOf(want) || ok != found || got.Negative() {
		t.Fatalf("Ratio of %d and %d: %d, %v", toBig(u), toBig(v), toBig(got), ok)
	}
}

func TestRatio(t *testing.T) {
	few := elements(t, 30)
	for _, u := range few {
		for _, v := range few {
			checkRatio(t, u, v)
		}
	}
	many := elements(t, 600)
	for i, u := range many {
		v := many[len(many)-1-i]
		checkRatio(t, u, v)
		// All four cases: a square, its Neg, and each times i.
		square := v.Mul(u.Square())
		checkRatio(t, square, v)
		checkRatio(t, square.Neg(), v)
		checkRatio(t, square.Mul(field.I()), v)
		checkRatio(t, square.Mul(field.I()).Neg(), v)
	}
}

func TestRatioOfNought(t *testing.T) {
	zero := field.Of(0)
	for _, x := range elements(t, 300) {
		if r, ok := field.Ratio(zero, x); !ok || r != (field.Element{}) {
			t.Errorf("Ratio of 0 and %d: %d, %v", toBig(x), toBig(r), ok)
		}
		if r, ok := field.Ratio(x, zero); ok != x.Zero() || r != (field.Element{}) {
			t.Errorf("Ratio of %d and 0: %d, %v", toBig(x), toBig(r), ok)
		}
	}
}

func TestRatioSquared(t *testing.T) {
	roots := 0
	for _, x := range elements(t, 600) {
		y := x.Add(field.Of(5)).Square().Add(field.Of(3))
		r, ok := field.Ratio(x, y)
		wanted := x
		if !ok {
			wanted = x.Mul(field.I())
		} else {
			roots++
		}
		if !r.Square().Mul(y).Same(wanted) {
			t.Errorf("Ratio of %d and %d, squared", toBig(x), toBig(y))
		}
	}
	if roots < 200 || roots > 400 {
		t.Errorf("%d of 600 have a root", roots)
	}
	if r, ok := field.Ratio(field.Of(4), field.Of(9)); !ok || !r.Mul(field.Of(3)).Abs().Same(field.Of(2)) {
		t.Errorf("Ratio of 4 and 9: %d, %v", toBig(r), ok)
	}
	if _, ok := field.Ratio(field.Of(2), field.Of(1)); ok {
		t.Error("2 has a root")
	}
}

// TestIsAField: by Same alone, without the library's numbers.
func TestIsAField(t *testing.T) {
	l := elements(t, 3000)
	for i, x := range l {
		y, z := l[(i*7+1)%len(l)], l[(i*11+5)%len(l)]
		if !x.Add(y).Same(y.Add(x)) || !x.Mul(y).Same(y.Mul(x)) {
			t.Fatalf("%d and %d can't be turned about", toBig(x), toBig(y))
		}
		if !x.Add(y).Add(z).Same(x.Add(y.Add(z))) || !x.Mul(y).Mul(z).Same(x.Mul(y.Mul(z))) {
			t.Fatalf("%d, %d and %d can't be put together at will", toBig(x), toBig(y), toBig(z))
		}
		if !x.Sub(y).Add(y).Same(x) || !x.Add(y).Sub(y).Same(x) || !x.Add(x.Neg()).Zero() {
			t.Fatalf("%d, taken off %d, doesn't come back", toBig(y), toBig(x))
		}
		if !x.Mul(y.Add(z)).Same(x.Mul(y).Add(x.Mul(z))) || !x.Mul(y.Sub(z)).Same(x.Mul(y).Sub(x.Mul(z))) {
			t.Fatalf("%d isn't spread over %d and %d", toBig(x), toBig(y), toBig(z))
		}
		if !x.Add(field.Of(0)).Same(x) || !x.Mul(field.Of(1)).Same(x) || !x.Mul(field.Of(0)).Zero() {
			t.Fatalf("%d by 0 and 1", toBig(x))
		}
	}
}
