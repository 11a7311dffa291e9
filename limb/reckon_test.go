package limb_test

import (
	"math"
	"math/big"
	"math/rand"
	"testing"

	"opaline/api"
	"opaline/limb"
)

func TestSumsDifferencesProducts(t *testing.T) {
	type act struct {
		name string
		wide func(w, v limb.Wide) (limb.Wide, bool)
		big  func(x, y *big.Int) *big.Int
	}
	acts := []act{
		{"Add", limb.Wide.Add, func(x, y *big.Int) *big.Int { return new(big.Int).Add(x, y) }},
		{"Sub", limb.Wide.Sub, func(x, y *big.Int) *big.Int { return new(big.Int).Sub(x, y) }},
		{"Mul", limb.Wide.Mul, func(x, y *big.Int) *big.Int { return new(big.Int).Mul(x, y) }},
	}
	for _, a := range acts {
		pairs(func(w, v limb.Wide) {
			exact := a.big(toBig(w), toBig(v))
			got, ok := a.wide(w, v)
			if got != fromBig(exact) || ok != fits(exact) {
				t.Fatalf("%v %s %v: %v, %v", w, a.name, v, got, ok)
			}
		})
	}
}

func TestGoesRound(t *testing.T) {
	if w, ok := greatest().Add(limb.Of(1)); ok || w != (limb.Wide{}) {
		t.Errorf("2^512 - 1 and 1: %v, %v", w, ok)
	}
	if w, ok := greatest().Add(limb.Of(0)); !ok || w != greatest() {
		t.Errorf("2^512 - 1 and 0: %v, %v", w, ok)
	}
	if w, ok := limb.Of(0).Sub(limb.Of(1)); ok || w != greatest() {
		t.Errorf("0 less 1: %v, %v", w, ok)
	}
	if w, ok := limb.Of(5).Sub(limb.Of(5)); !ok || w != (limb.Wide{}) {
		t.Errorf("5 less 5: %v, %v", w, ok)
	}
	half := limb.Of(1).Shift(256)
	if w, ok := half.Mul(half); ok || w != (limb.Wide{}) {
		t.Errorf("2^256 times 2^256: %v, %v", w, ok)
	}
	if w, ok := half.Mul(limb.Of(1).Shift(255)); !ok || w != limb.Of(1).Shift(511) {
		t.Errorf("2^256 times 2^255: %v, %v", w, ok)
	}
	if w, ok := greatest().Mul(greatest()); ok || w != limb.Of(1) {
		t.Errorf("2^512 - 1 times itself: %v, %v", w, ok)
	}
}

func checkDiv(t *testing.T, w, v limb.Wide) {
	t.Helper()
	often, left, e := w.Div(v)
	if v == (limb.Wide{}) {
		if e != api.ErrZero || often != v || left != v {
			t.Fatalf("%v by 0: %v, %v, %v", w, often, left, e)
		}
		return
	}
	q, r := new(big.Int).QuoRem(toBig(w), toBig(v), new(big.Int))
	if e != api.OK || often != fromBig(q) || left != fromBig(r) {
		t.Fatalf("%v by %v: %v, %v, %v", w, v, often, left, e)
	}
	product, fine := often.Mul(v)
	sum, also := product.Add(left)
	if !fine || !also || sum != w || left.Cmp(v) >= 0 {
		t.Fatalf("%v by %v doesn't come to it again", w, v)
	}
}

func TestDiv(t *testing.T) {
	pairs(func(w, v limb.Wide) { checkDiv(t, w, v) })
}

// TestDivNearly divides numbers that lie close about products, where a guessed word is too great.
func TestDivNearly(t *testing.T) {
	r := rand.New(rand.NewSource(3))
	for range 100000 {
		v := randomWide(r)
		w, _ := v.Mul(randomWide(r).Shift(-64 * r.Intn(8)))
		checkDiv(t, w, v)
		less, _ := w.Sub(limb.Of(1))
		checkDiv(t, less, v)
		more, _ := w.Add(limb.Of(1))
		checkDiv(t, more, v)
	}
}

func TestDivZero(t *testing.T) {
	for _, w := range samples(20) {
		checkDiv(t, w, limb.Wide{})
	}
}

func TestCmp(t *testing.T) {
	pairs(func(w, v limb.Wide) {
		if got := w.Cmp(v); got != toBig(w).Cmp(toBig(v)) {
			t.Fatalf("%v Cmp %v: %d", w, v, got)
		}
		if w.Cmp(w) != 0 {
			t.Fatalf("%v Cmp itself", w)
		}
	})
}

func TestBit(t *testing.T) {
	for _, w := range samples(200) {
		n := toBig(w)
		for i := range 512 {
			if got := w.Bit(i); got != n.Bit(i) {
				t.Errorf("%v Bit(%d): %d", w, i, got)
			}
		}
	}
	for _, i := range []int{-1, -64, -512, math.MinInt, 512, 513, 1024, math.MaxInt} {
		if got := greatest().Bit(i); got != 0 {
			t.Errorf("Bit(%d): %d", i, got)
		}
	}
}

func TestLen(t *testing.T) {
	if n := limb.Of(0).Len(); n != 0 {
		t.Errorf("Len of 0: %d", n)
	}
	for i := range 512 {
		w := fromBig(new(big.Int).Lsh(one, uint(i)))
		less, _ := w.Sub(limb.Of(1))
		if w.Len() != i+1 || less.Len() != i {
			t.Errorf("Len of 2^%d: %d, of one less: %d", i, w.Len(), less.Len())
		}
	}
	for _, w := range samples(3000) {
		if w.Len() != toBig(w).BitLen() {
			t.Errorf("Len of %v: %d", w, w.Len())
		}
	}
}

func TestShift(t *testing.T) {
	for _, w := range samples(100) {
		n := toBig(w)
		for by := range 600 {
			if got := w.Shift(by); got != fromBig(new(big.Int).Lsh(n, uint(by))) {
				t.Errorf("%v Shift(%d): %v", w, by, got)
			}
			if got := w.Shift(-by); got != fromBig(new(big.Int).Rsh(n, uint(by))) {
				t.Errorf("%v Shift(-%d): %v", w, by, got)
			}
		}
	}
	for _, by := range []int{512, 513, 576, math.MaxInt - 1, math.MaxInt, -512, -513, -576, math.MinInt + 1, math.MinInt} {
		if got := greatest().Shift(by); got != (limb.Wide{}) {
			t.Errorf("Shift(%d): %v", by, got)
		}
	}
	if got := greatest().Shift(511); got != (limb.Wide{7: 1 << 63}) {
		t.Errorf("Shift(511): %v", got)
	}
	if got := greatest().Shift(-511); got != limb.Of(1) {
		t.Errorf("Shift(-511): %v", got)
	}
}
