package curve_test

import (
	"math/big"
	"math/rand"
	"slices"
	"testing"

	"opaline/api"
	"opaline/curve"
	"opaline/field"
)

const (
	dDigits = "37095705934669439343138083508754565189542113879843219016388785533085940283555"
	iDigits = "19681161376707505956807079304988542015446066515923890162744021073123829784752"
	xDigits = "15112221349535400772501151409588531511454012693041857206046113283949847762202"
	lDigits = "7237005577332262213973186563042994240857116359379907606001950938285454250989"
)

var (
	zero, one = big.NewInt(0), big.NewInt(1)
	prime     = minus(new(big.Int).Lsh(one, 255), big.NewInt(19))
	d         = number(dDigits)
	order     = number(lDigits)
)

func number(digits string) *big.Int {
	n, ok := new(big.Int).SetString(digits, 10)
	if !ok {
		panic(digits)
	}
	return n
}

func plus(x, y *big.Int) *big.Int { return new(big.Int).Add(x, y) }

func minus(x, y *big.Int) *big.Int { return new(big.Int).Sub(x, y) }

func mod(x *big.Int) *big.Int { return new(big.Int).Mod(x, prime) }

func times(l ...*big.Int) *big.Int {
	out := one
	for _, x := range l {
		out = mod(new(big.Int).Mul(out, x))
	}
	return out
}

func over(x, y *big.Int) *big.Int { return times(x, new(big.Int).ModInverse(mod(y), prime)) }

// pair is a point in the library's numbers, x and y.
type pair struct{ x, y *big.Int }

// sum is the chapter's, word by word.
func (p pair) sum(q pair) pair {
	all := times(d, p.x, q.x, p.y, q.y)
	return pair{
		over(plus(times(p.x, q.y), times(q.x, p.y)), plus(one, all)),
		over(plus(times(p.y, q.y), times(p.x, q.x)), minus(one, all)),
	}
}

// often is the sum of n of them.
func (p pair) often(n *big.Int) pair {
	out := pair{zero, one}
	for i := n.BitLen() - 1; i >= 0; i-- {
		out = out.sum(out)
		if n.Bit(i) == 1 {
			out = out.sum(p)
		}
	}
	return out
}

// onCurve: does the curve's equation hold?
func (p pair) onCurve() bool {
	x, y := times(p.x, p.x), times(p.y, p.y)
	return mod(minus(y, x)).Cmp(mod(plus(one, times(d, x, y)))) == 0
}

func element(n *big.Int) field.Element {
	var b api.Bytes
	mod(n).FillBytes(b[:])
	slices.Reverse(b[:])
	x, e := field.Parse(b)
	if e != api.OK {
		panic(e)
	}
	return x
}

func toBig(x field.Element) *big.Int {
	b := x.Bytes()
	slices.Reverse(b[:])
	return new(big.Int).SetBytes(b[:])
}

func toPair(p curve.Point) pair { return pair{toBig(p.X()), toBig(p.Y())} }

// sound fails, where a point isn't the wanted one, or its parts don't fit each other.
func sound(t *testing.T, what string, p curve.Point, want pair) {
	t.Helper()
	got := toPair(p)
	if got.x.Cmp(want.x) != 0 || got.y.Cmp(want.y) != 0 {
		t.Fatalf("%s: %d, %d, wanted %d, %d", what, got.x, got.y, want.x, want.y)
	}
	x, y, z, s := p.Parts()
	if z.Zero() || !x.Mul(y).Same(z.Mul(s)) || !p.X().Mul(z).Same(x) || !p.Y().Mul(z).Same(y) {
		t.Fatalf("%s: its parts don't fit", what)
	}
}

// point is the one of a pair, its z being 1.
func point(t *testing.T, p pair) curve.Point {
	t.Helper()
	out, e := curve.At(element(p.x), element(p.y))
	if e != api.OK {
		t.Fatalf("At(%d, %d): %v", p.x, p.y, e)
	}
	return out
}

// scaled is a point in other parts: each of them so many times.
func scaled(p curve.Point, n uint64) curve.Point {
	x, y, z, t := p.Parts()
	by := field.Of(n)
	return curve.Of(x.Mul(by), y.Mul(by), z.Mul(by), t.Mul(by))
}

// points are those of the orders 1, 2, 4 and 8, and others by chance, in all the subgroups; none of them twice.
func points(t *testing.T, n int) []pair {
	t.Helper()
	i := number(iDigits)
	l := []pair{{zero, one}, {zero, minus(prime, one)}, {i, zero}, {minus(prime, i), zero}}
	base := pair{number(xDigits), over(big.NewInt(4), big.NewInt(5))}
	l = append(l, base, base.sum(base), base.often(minus(order, one)))
	r := rand.New(rand.NewSource(7))
	for len(l) < n {
		p, ok := lift(new(big.Int).Rand(r, prime))
		if !ok {
			continue
		}
		// Times the order there is left of it what has an order of 8 or below.
		if small := p.often(order); len(l)%3 == 0 && small.y.Sign() != 0 && small.x.Sign() != 0 {
			p = small
		}
		if !slices.ContainsFunc(l, func(q pair) bool { return p.x.Cmp(q.x) == 0 && p.y.Cmp(q.y) == 0 }) {
			l = append(l, p)
		}
	}
	return l
}

// lift is a point of that y, if there is one.
func lift(y *big.Int) (pair, bool) {
	squared := times(y, y)
	x := new(big.Int).ModSqrt(over(minus(squared, one), plus(times(d, squared), one)), prime)
	if x == nil {
		return pair{}, false
	}
	return pair{x, y}, true
}

func TestD(t *testing.T) {
	if toBig(curve.D()).Cmp(d) != 0 {
		t.Errorf("D: %d", toBig(curve.D()))
	}
	if !curve.D().Mul(field.Of(121666)).Same(field.Of(121665).Neg()) {
		t.Error("D isn't -121665/121666")
	}
}

func TestNeutral(t *testing.T) {
	sound(t, "Neutral", curve.Neutral(), pair{zero, one})
}

func TestBase(t *testing.T) {
	b := curve.Base()
	sound(t, "Base", b, pair{number(xDigits), over(big.NewInt(4), big.NewInt(5))})
	if !toPair(b).onCurve() || b.X().Negative() {
		t.Error("the base isn't on the curve, or its x is negative")
	}
	if !b.Add(b.Neg()).Same(curve.Neutral()) {
		t.Error("the base and its Neg")
	}
}

func TestAt(t *testing.T) {
	for _, p := range points(t, 60) {
		sound(t, "At", point(t, p), p)
	}
}

func TestAtWrong(t *testing.T) {
	wrong := []pair{{zero, zero}, {one, zero}, {one, one}, {zero, big.NewInt(2)}, {big.NewInt(2), big.NewInt(3)}}
	for _, p := range points(t, 60) {
		wrong = append(wrong, pair{p.x, plus(p.y, one)}, pair{plus(p.x, one), p.y}, pair{p.y, p.x}, pair{p.x, p.x})
	}
	n := 0
	for _, p := range wrong {
		if p = (pair{mod(p.x), mod(p.y)}); p.onCurve() {
			continue
		}
		n++
		got, e := curve.At(element(p.x), element(p.y))
		if e != api.ErrPoint {
			t.Errorf("At(%d, %d): %v", p.x, p.y, e)
		}
		sound(t, "At beside an error", got, pair{zero, one})
	}
	if n < 200 {
		t.Errorf("of the wrong ones but %d aren't on the curve", n)
	}
}

func TestPartsAndOf(t *testing.T) {
	r := rand.New(rand.NewSource(8))
	for _, p := range points(t, 60) {
		at := point(t, p)
		for _, n := range []uint64{1, 2, 19, r.Uint64() | 1} {
			q := scaled(at, n)
			sound(t, "Of", q, p)
			sound(t, "Of of Parts", curve.Of(q.Parts()), p)
			if !q.Same(at) || !at.Same(q) {
				t.Errorf("%d, %d in other parts isn't the same", p.x, p.y)
			}
		}
	}
}

func TestSame(t *testing.T) {
	l := points(t, 40)
	for i, p := range l {
		for j, q := range l {
			a, b := scaled(point(t, p), uint64(i+1)), scaled(point(t, q), uint64(j+3))
			if a.Same(b) != (i == j) {
				t.Errorf("Same of %d, %d and %d, %d: %t", p.x, p.y, q.x, q.y, i != j)
			}
		}
	}
}

// TestSameHalf: one x with two y, and one y with two x.
func TestSameHalf(t *testing.T) {
	b := curve.Base()
	minusY, e := curve.At(b.X(), b.Y().Neg())
	if e != api.OK {
		t.Fatal(e)
	}
	for _, q := range []curve.Point{b.Neg(), minusY, minusY.Neg()} {
		if b.Same(q) || q.Same(b) {
			t.Errorf("the base is the same as %d, %d", toBig(q.X()), toBig(q.Y()))
		}
	}
}

// TestZeroPointEnds: of the zero Point nothing is promised, but that no call panics.
func TestZeroPointEnds(t *testing.T) {
	var p curve.Point
	p.X()
	p.Y()
	p.Add(p).Double().Neg().Same(curve.Of(p.Parts()))
	curve.Sum(p, curve.Base())
}
