package ristretto_test

import (
	"math/big"
	"math/rand"
	"testing"

	"opaline/api"
	"opaline/curve"
	"opaline/field"
	"opaline/ristretto"
	"opaline/scalar"
)

// chances are bytes by chance, always the same ones.
func chances(seed int64, n int) []api.Bytes {
	r := rand.New(rand.NewSource(seed))
	l := make([]api.Bytes, n)
	for i := range l {
		r.Read(l[i][:])
	}
	return l
}

// few are the four points that lead to the identity: of the orders 1, 2, 4 and 4.
func few(t *testing.T) []curve.Point {
	t.Helper()
	var l []curve.Point
	zero, one := field.Of(0), field.Of(1)
	for _, xy := range [][2]field.Element{{zero, one}, {zero, one.Neg()}, {field.I(), zero}, {field.I().Neg(), zero}} {
		p, e := curve.At(xy[0], xy[1])
		if e != api.OK {
			t.Fatal(e)
		}
		l = append(l, p)
	}
	return l
}

// scaled is a point in other parts: each of them so many times.
func scaled(p curve.Point, n uint64) curve.Point {
	x, y, z, t := p.Parts()
	by := field.Of(n)
	return curve.Of(x.Mul(by), y.Mul(by), z.Mul(by), t.Mul(by))
}

// elements are no two the same: multiples of the base, and elements by chance.
func elements(n int) []ristretto.Element {
	l := []ristretto.Element{ristretto.Identity(), ristretto.Base(), ristretto.Base().Neg()}
	for _, b := range chances(1, n-len(l)) {
		l = append(l, ristretto.Half(b))
	}
	return l
}

// sound fails, where parts of an element's point don't fit each other, or it isn't on the curve, or isn't twice another one.
func sound(t *testing.T, what string, e ristretto.Element) {
	t.Helper()
	p := e.Point()
	x, y, z, s := p.Parts()
	if z.Zero() || !x.Mul(y).Same(z.Mul(s)) {
		t.Fatalf("%s: its parts don't fit", what)
	}
	if _, e := curve.At(p.X(), p.Y()); e != api.OK {
		t.Fatalf("%s: it isn't on the curve", what)
	}
	// Times the order there is left what has an order of 8 at most; of those that are twice another one, of 4.
	small := p.Times(scalar.Of(1).Neg()).Add(p)
	if !small.Double().Double().Same(curve.Neutral()) {
		t.Fatalf("%s: it isn't twice another one", what)
	}
}

func TestIdentityAndBase(t *testing.T) {
	sound(t, "Identity", ristretto.Identity())
	sound(t, "Base", ristretto.Base())
	if !ristretto.Of(curve.Base()).Same(ristretto.Base()) || !ristretto.Of(curve.Neutral()).Same(ristretto.Identity()) {
		t.Error("Identity and Base aren't those of the points")
	}
	if !ristretto.Identity().None() || ristretto.Base().None() {
		t.Error("None")
	}
	if ristretto.Identity().Same(ristretto.Base()) {
		t.Error("the base is the identity")
	}
	last := scalar.Of(1).Neg()
	if !ristretto.Base().Times(last).Add(ristretto.Base()).None() || ristretto.Base().Times(last).None() {
		t.Error("the base, times the order")
	}
}

func TestZeroElement(t *testing.T) {
	var e ristretto.Element
	if !e.None() {
		t.Error("None of the zero Element")
	}
	// Of all else nothing is promised, but that no call panics.
	e.Bytes()
	e.Add(e).Neg().Times(scalar.Of(2)).Same(ristretto.Of(e.Point()))
}

func TestSame(t *testing.T) {
	l := elements(40)
	for i, e := range l {
		for j, f := range l {
			if e.Same(f) != (i == j) {
				t.Errorf("Same of %d and %d: %t", i, j, i != j)
			}
			if (e.Bytes() == f.Bytes()) != (i == j) {
				t.Errorf("bytes of %d and %d", i, j)
			}
		}
		if e.None() != (i == 0) {
			t.Errorf("None of %d", i)
		}
	}
}

// TestCosets: what differs by one of order 4 is one element, in whatever parts, and so is all that comes of it.
func TestCosets(t *testing.T) {
	a := scalar.Of(12345)
	f := ristretto.Half(api.Bytes{5})
	for i, e := range elements(40) {
		want := e.Bytes()
		for j, small := range few(t) {
			g := ristretto.Of(scaled(e.Point().Add(small), uint64(3*i+j+2)))
			if !g.Same(e) || !e.Same(g) || g.None() != e.None() {
				t.Errorf("%d by the point %d isn't the same", i, j)
			}
			if g.Bytes() != want {
				t.Errorf("bytes of %d by the point %d: %x, wanted %x", i, j, g.Bytes(), want)
			}
			if g.Add(f).Bytes() != e.Add(f).Bytes() || f.Add(g).Bytes() != e.Add(f).Bytes() {
				t.Errorf("Add of %d by the point %d", i, j)
			}
			if g.Neg().Bytes() != e.Neg().Bytes() || g.Times(a).Bytes() != e.Times(a).Bytes() {
				t.Errorf("Neg and Times of %d by the point %d", i, j)
			}
		}
	}
}

// TestAsPoints: the calls are those of layer 7's points.
func TestAsPoints(t *testing.T) {
	l := elements(30)
	for i, e := range l {
		f := l[(i*7+3)%len(l)]
		a, _ := scalar.Wide(string(chances(int64(i), 1)[0][:]))
		sound(t, "Add", e.Add(f))
		sound(t, "Times", e.Times(a))
		if !e.Add(f).Same(ristretto.Of(e.Point().Add(f.Point()))) || !e.Add(e).Same(ristretto.Of(e.Point().Double())) {
			t.Errorf("Add of %d", i)
		}
		if !e.Neg().Same(ristretto.Of(e.Point().Neg())) || !e.Times(a).Same(ristretto.Of(e.Point().Times(a))) {
			t.Errorf("Neg and Times of %d", i)
		}
		if !ristretto.Of(e.Point()).Same(e) {
			t.Errorf("Of of Point of %d", i)
		}
	}
}

func TestGroup(t *testing.T) {
	l := elements(40)
	for i, e := range l {
		f, g := l[(i*7+3)%len(l)], l[(i*11+5)%len(l)]
		if !e.Add(f).Same(f.Add(e)) || !e.Add(f).Add(g).Same(e.Add(f.Add(g))) {
			t.Errorf("sums of %d", i)
		}
		if !e.Add(e.Neg()).None() || !e.Add(ristretto.Identity()).Same(e) || !e.Neg().Neg().Same(e) {
			t.Errorf("%d, Neg and the identity", i)
		}
		m, n := scalar.Of(uint64(i)+2), scalar.Of(1<<62+uint64(i)).Invert()
		if !e.Times(m).Times(n).Same(e.Times(m.Mul(n))) || !e.Times(m).Add(e.Times(n)).Same(e.Times(m.Add(n))) {
			t.Errorf("products and sums of scalars, of %d", i)
		}
		if !e.Times(m).Times(m.Invert()).Same(e) || !e.Times(scalar.Of(1).Neg()).Same(e.Neg()) {
			t.Errorf("%d and what a scalar is inverted", i)
		}
		if !e.Times(scalar.Of(0)).None() || !e.Times(scalar.Of(1)).Same(e) {
			t.Errorf("%d no times, and once", i)
		}
	}
}

// number is a field's element in the library's numbers.
func number(x field.Element) *big.Int { return bigOf(x.Bytes()) }
