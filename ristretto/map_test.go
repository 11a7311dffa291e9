package ristretto_test

import (
	"crypto/sha512"
	"math/big"
	"strings"
	"testing"

	"opaline/api"
	"opaline/curve"
	"opaline/field"
	"opaline/ristretto"
)

// TestMapVectors: elements of sums of texts, as the group's own vectors have them.
func TestMapVectors(t *testing.T) {
	for _, c := range []struct{ text, want string }{
		{"Ristretto is traditionally a short shot of espresso coffee", "3066f82a1a747d45120d1740f14358531a8f04bbffe6a819f86dfe50f44a0a46"},
		{"made with the normal amount of ground coffee but extracted with", "f26e5b6f7d362d2d2a94c5d0e7602cb4773c95a2e5c31a64f133189fa76ed61b"},
		{"about half the amount of water in the same amount of time", "006ccd2a9e6867e6a2c5cea83d3302cc9de128dd2a9a57dd8ee7b9d7ffe02826"},
		{"by using a finer grind.", "f8f0c87cf237953c5890aec3998169005dae3eca1fbb04548c635953c817f92a"},
		{"This produces a concentrated shot of coffee per volume.", "ae81e7dedf20a497e10c304a765c1767a42d6e06029758d2d7e8ef7cc4c41179"},
		{"Just pulling a normal shot short will produce a weaker shot", "e2705652ff9f5e44d3e841bf1c251cf7dddb77d140870d1ab2ed64f1a9ce8628"},
		{"and is not a Ristretto as some believe.", "80bd07262511cdde4863f8a7434cef696750681cb9510eea557088f76d9e5065"},
	} {
		s := sha512.Sum512([]byte(c.text))
		e, err := ristretto.Map(string(s[:]))
		if err != api.OK || e.Bytes() != fromHex(t, c.want) {
			t.Errorf("Map of the sum of %q: %x, %v", c.text, e.Bytes(), err)
		}
	}
}

func TestMapIsTheHalves(t *testing.T) {
	l := chances(3, 100)
	for i, b := range l {
		c := l[len(l)-1-i]
		e, err := ristretto.Map(string(b[:]) + string(c[:]))
		if err != api.OK || !e.Same(ristretto.Half(b).Add(ristretto.Half(c))) {
			t.Errorf("Map of %x and %x: %v", b, c, err)
		}
	}
}

func TestMapWrong(t *testing.T) {
	for n := range 130 {
		e, err := ristretto.Map(strings.Repeat("a", n))
		if n == 64 {
			if err != api.OK || e.None() {
				t.Errorf("Map of 64 bytes: %v", err)
			}
			continue
		}
		if err != api.ErrForm || !isIdentity(e) {
			t.Errorf("Map of %d bytes: %v", n, err)
		}
	}
}

// mapped is MAP of RFC 9496, 4.3.4, in the library's numbers and with quotients: x and y.
func mapped(b api.Bytes) (x, y *big.Int) {
	b[31] &= 127
	zero, two := big.NewInt(0), big.NewInt(2)
	d, _ := new(big.Int).SetString(dDigits, 10)
	i := new(big.Int).Exp(two, new(big.Int).Rsh(prime, 2), prime)
	over, _ := new(big.Int).SetString("25063068953384623474111414158702152701244531502492656460079210482610430750235", 10)
	t := new(big.Int).Mod(bigOf(b), prime)
	minusOne := sub(zero, one)
	r := mul(i, t, t)
	u := mul(sub(r, minusOne), sub(one, mul(d, d)))
	v := mul(sub(minusOne, mul(r, d)), sub(r, sub(zero, d)))
	s, c := new(big.Int), minusOne
	below := new(big.Int).ModInverse(v, prime)
	if below == nil {
		s, c = zero, r
	} else if s = new(big.Int).ModSqrt(mul(u, below), prime); s == nil {
		s, c = mul(t, new(big.Int).ModSqrt(mul(i, u, below), prime)), r
		if s.Bit(0) == 0 {
			s = sub(zero, s)
		}
	} else if s.Bit(0) == 1 {
		s = sub(zero, s)
	}
	n := sub(mul(c, sub(r, one), sub(d, one), sub(d, one)), v)
	x = mul(two, s, v, new(big.Int).ModInverse(mul(n, over), prime))
	squared := mul(s, s)
	y = mul(sub(one, squared), new(big.Int).ModInverse(sub(squared, minusOne), prime))
	return x, y
}

// edges are bytes at the ends of what Half reads, and those whose v is 0: t^2 being i d, or i / d.
func edges(t *testing.T) []api.Bytes {
	t.Helper()
	var l []api.Bytes
	for n := range int64(20) {
		l = append(l, api.Bytes{byte(n)}, bytesOf(new(big.Int).Add(prime, big.NewInt(n-10))))
	}
	for _, x := range []field.Element{field.I(), field.I().Neg(), curve.D(), curve.D().Invert()} {
		l = append(l, x.Bytes())
	}
	for _, x := range []field.Element{curve.D(), curve.D().Invert()} {
		root, square := field.Ratio(field.I().Mul(x), field.Of(1))
		if !square {
			t.Fatal("t^2 has no root")
		}
		l = append(l, root.Bytes(), root.Neg().Bytes())
	}
	return l
}

func TestHalf(t *testing.T) {
	for _, b := range append(edges(t), chances(4, 300)...) {
		e := ristretto.Half(b)
		sound(t, "Half", e)
		x, y := mapped(b)
		px, py := element(x), element(y)
		p, err := curve.At(px, py)
		if err != api.OK {
			t.Fatalf("the reckoning of %x isn't on the curve", b)
		}
		if !e.Same(ristretto.Of(p)) || e.Bytes() != ristretto.Of(p).Bytes() {
			t.Errorf("Half of %x: %x, wanted %x", b, e.Bytes(), ristretto.Of(p).Bytes())
		}
	}
}

func element(n *big.Int) field.Element {
	x, e := field.Parse(bytesOf(n))
	if e != api.OK {
		panic(e)
	}
	return x
}

// TestHalfAlike: the highest bit isn't read, numbers count modulo p, and one of them as its Neg.
func TestHalfAlike(t *testing.T) {
	for _, b := range append(edges(t), chances(5, 50)...) {
		want := ristretto.Half(b).Bytes()
		high := b
		high[31] ^= 128
		if ristretto.Half(high).Bytes() != want {
			t.Errorf("Half of %x by its highest bit", b)
		}
		x := field.Loose(b)
		if ristretto.Half(x.Bytes()).Bytes() != want || ristretto.Half(x.Neg().Bytes()).Bytes() != want {
			t.Errorf("Half of %x, modulo p, and its Neg", b)
		}
	}
	if ristretto.Half(api.Bytes{2}).Same(ristretto.Half(api.Bytes{3})) {
		t.Error("Half of 2 and 3")
	}
}
