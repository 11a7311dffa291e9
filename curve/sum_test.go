package curve_test

import (
	"crypto/ed25519"
	"crypto/sha512"
	"math/big"
	"math/rand"
	"slices"
	"testing"

	"opaline/api"
	"opaline/curve"
	"opaline/scalar"
)

func toScalar(t *testing.T, n *big.Int) scalar.Scalar {
	t.Helper()
	var b api.Bytes
	n.FillBytes(b[:])
	slices.Reverse(b[:])
	a, e := scalar.Parse(b)
	if e != api.OK {
		t.Fatalf("Parse of %d: %v", n, e)
	}
	return a
}

// TestAdd: each with each, those with themselves and with their Neg among them.
func TestAdd(t *testing.T) {
	l := points(t, 40)
	for i, p := range l {
		for j, q := range l {
			a, b := scaled(point(t, p), uint64(i+1)), scaled(point(t, q), uint64(j+1))
			sound(t, "Add", a.Add(b), p.sum(q))
			sound(t, "Add of a Neg", a.Add(b.Neg()), p.sum(pair{mod(minus(zero, q.x)), q.y}))
		}
	}
}

func TestDouble(t *testing.T) {
	for i, p := range points(t, 200) {
		a := scaled(point(t, p), uint64(i+1))
		sound(t, "Double", a.Double(), p.sum(p))
		if !a.Double().Same(a.Add(a)) {
			t.Errorf("Double of %d, %d isn't its sum with itself", p.x, p.y)
		}
	}
}

func TestNeg(t *testing.T) {
	for i, p := range points(t, 100) {
		a := scaled(point(t, p), uint64(i+1))
		sound(t, "Neg", a.Neg(), pair{mod(minus(zero, p.x)), p.y})
		sound(t, "Add of its Neg", a.Add(a.Neg()), pair{zero, one})
		sound(t, "Neg of Neg", a.Neg().Neg(), p)
	}
}

func TestTimesFew(t *testing.T) {
	for _, p := range points(t, 20) {
		a, want := point(t, p), pair{zero, one}
		for n := range uint64(40) {
			sound(t, "Times", a.Times(scalar.Of(n)), want)
			want = want.sum(p)
		}
	}
}

// TestTimes: the scalar counts as the number from 0 to the order less 1, for points of small orders, too.
func TestTimes(t *testing.T) {
	last := minus(order, one)
	l := []*big.Int{zero, one, last, minus(last, one), new(big.Int).Rsh(order, 1)}
	for _, n := range []uint{63, 64, 128, 251, 252} {
		l = append(l, new(big.Int).Lsh(one, n), minus(new(big.Int).Lsh(one, n), one))
	}
	r := rand.New(rand.NewSource(9))
	for range 3 {
		l = append(l, new(big.Int).Rand(r, order))
	}
	for _, p := range points(t, 12) {
		for _, n := range l {
			sound(t, "Times", point(t, p).Times(toScalar(t, n)), p.often(n))
		}
	}
}

// TestTimesAsTheLibrary holds the base's multiples against the keys of the library's signatures.
func TestTimesAsTheLibrary(t *testing.T) {
	for i := range 50 {
		seed := make([]byte, 32)
		seed[0] = byte(i)
		h := sha512.Sum512(seed)
		h[0] &= 248
		h[31] = h[31]&127 | 64
		a, _ := scalar.Wide(string(h[:32]))
		p := curve.Base().Times(a)
		got := p.Y().Bytes()
		if p.X().Negative() {
			got[31] |= 128
		}
		key := ed25519.NewKeyFromSeed(seed)
		if string(got[:]) != string(key[32:]) {
			t.Errorf("the key of seed %d: %x, wanted %x", i, got, key[32:])
		}
	}
}

func TestSum(t *testing.T) {
	sound(t, "Sum of none", curve.Sum(), pair{zero, one})
	sound(t, "Sum of an empty list", curve.Sum([]curve.Point{}...), pair{zero, one})
	var l []curve.Point
	want := pair{zero, one}
	for i, p := range points(t, 60) {
		l = append(l, scaled(point(t, p), uint64(i+1)))
		want = want.sum(p)
		sound(t, "Sum", curve.Sum(l...), want)
	}
	b := curve.Base()
	if !curve.Sum(b, b, b).Same(b.Times(scalar.Of(3))) || !curve.Sum(b, b.Neg(), b).Same(b) {
		t.Error("Sum of the base")
	}
}

func TestSumKeepsItsList(t *testing.T) {
	all := []curve.Point{curve.Base(), curve.Base().Double(), curve.Base().Neg()}
	was := slices.Clone(all)
	curve.Sum(all[:2]...)
	if !slices.Equal(all, was) {
		t.Error("Sum changes its list, or the room behind it")
	}
}

// TestSumsTurnAbout: by Same alone, without the library's numbers.
func TestSumsTurnAbout(t *testing.T) {
	var l []curve.Point
	for _, p := range points(t, 60) {
		l = append(l, point(t, p))
	}
	for i, a := range l {
		b, c := l[(i*7+1)%len(l)], l[(i*11+5)%len(l)]
		if !a.Add(b).Same(b.Add(a)) || !a.Add(b).Add(c).Same(a.Add(b.Add(c))) {
			t.Fatal("sums can't be turned about, or put together at will")
		}
		if !curve.Sum(a, b, c).Same(curve.Sum(c, a, b)) || !a.Add(curve.Neutral()).Same(a) {
			t.Fatal("Sum, or the neutral one")
		}
		m, n := scalar.Of(uint64(i)), scalar.Of(1<<60+uint64(i))
		if !a.Times(m).Add(a.Times(n)).Same(a.Times(m.Add(n))) {
			t.Fatal("Times isn't spread over sums of scalars")
		}
		if !a.Add(b).Times(n).Same(a.Times(n).Add(b.Times(n))) {
			t.Fatal("Times isn't spread over sums of points")
		}
	}
}

func TestOrder(t *testing.T) {
	b, last := curve.Base(), scalar.Of(1).Neg()
	if !b.Times(last).Add(b).Same(curve.Neutral()) || !b.Times(last).Same(b.Neg()) {
		t.Error("the base, times the order, isn't the neutral one")
	}
	if b.Times(last).Same(curve.Neutral()) {
		t.Error("the base, one time less")
	}
	if !b.Times(scalar.Of(0)).Same(curve.Neutral()) {
		t.Error("the base no times")
	}
}
