package limb_test

import (
	"math"
	"math/big"
	"math/rand"
	"strings"
	"testing"

	"opaline/api"
	"opaline/limb"
)

var (
	one  = big.NewInt(1)
	over = new(big.Int).Lsh(one, 512)
)

// toBig is the number of a Wide, told by its words alone.
func toBig(w limb.Wide) *big.Int {
	n := new(big.Int)
	for i := 7; i >= 0; i-- {
		n.Lsh(n, 64)
		n.Or(n, new(big.Int).SetUint64(w[i]))
	}
	return n
}

// fromBig is the Wide of a number, modulo 2^512.
func fromBig(n *big.Int) limb.Wide {
	var w limb.Wide
	rest := new(big.Int).Mod(n, over)
	low := new(big.Int).SetUint64(math.MaxUint64)
	for i := range w {
		w[i] = new(big.Int).And(rest, low).Uint64()
		rest.Rsh(rest, 64)
	}
	return w
}

func fits(n *big.Int) bool { return n.Sign() >= 0 && n.Cmp(over) < 0 }

func greatest() limb.Wide { return fromBig(new(big.Int).Sub(over, one)) }

// edges are words at which carries, borrows and guessed words go wrong most easily.
var edges = []uint64{0, 0, 1, 2, 1<<32 - 1, 1 << 32, 1<<63 - 1, 1 << 63, 1<<63 + 1, math.MaxUint64 - 1, math.MaxUint64, math.MaxUint64}

func randomWide(r *rand.Rand) limb.Wide {
	var w limb.Wide
	for i := range 1 + r.Intn(8) {
		w[i] = r.Uint64()
		if r.Intn(3) != 0 {
			w[i] = edges[r.Intn(len(edges))]
		}
	}
	return w
}

// samples are the edges, and many others of all lengths.
func samples(n int) []limb.Wide {
	r := rand.New(rand.NewSource(1))
	l := []limb.Wide{{}, limb.Of(1), limb.Of(10), limb.Of(math.MaxUint64), {0, 1}, {7: 1}, {7: 1 << 63}, greatest()}
	for len(l) < n {
		l = append(l, randomWide(r))
	}
	return l
}

// pairs hands on each edge with each, and many others.
func pairs(f func(w, v limb.Wide)) {
	few := samples(40)
	for _, w := range few {
		for _, v := range few {
			f(w, v)
		}
	}
	r := rand.New(rand.NewSource(2))
	for range 100000 {
		f(randomWide(r), randomWide(r))
	}
}

func TestOf(t *testing.T) {
	for _, n := range edges {
		if w := limb.Of(n); w != (limb.Wide{n}) {
			t.Errorf("Of(%d): %v", n, w)
		}
	}
}

func TestParse(t *testing.T) {
	long := ""
	for i := range 64 {
		long += string([]byte{byte(i + 1)})
	}
	for n := range 65 {
		w, e := limb.Parse(long[:n])
		number := new(big.Int)
		for i := n - 1; i >= 0; i-- {
			number.Lsh(number, 8).Or(number, big.NewInt(int64(long[i])))
		}
		if e != api.OK || w != fromBig(number) {
			t.Errorf("Parse of %d bytes: %v, %v", n, w, e)
		}
	}
	if w, e := limb.Parse("\x02\x01"); e != api.OK || w != limb.Of(258) {
		t.Errorf("Parse of 02 01: %v, %v", w, e)
	}
	if w, e := limb.Parse(strings.Repeat("\x00", 8) + "\x01" + strings.Repeat("\x00", 55)); e != api.OK || w != (limb.Wide{0, 1}) {
		t.Errorf("Parse of 2^64: %v, %v", w, e)
	}
}

func TestParseLong(t *testing.T) {
	for _, s := range []string{strings.Repeat("\x00", 65), strings.Repeat("\xff", 65), strings.Repeat("a", 1000)} {
		if w, e := limb.Parse(s); e != api.ErrLong || w != (limb.Wide{}) {
			t.Errorf("Parse of %d bytes: %v, %v", len(s), w, e)
		}
	}
}

func TestBytes(t *testing.T) {
	if s := limb.Of(258).Bytes(); s != "\x02\x01"+strings.Repeat("\x00", 62) {
		t.Errorf("Bytes of 258: %q", s)
	}
	if s := (limb.Wide{7: 0xfe00000000000000}).Bytes(); s != strings.Repeat("\x00", 63)+"\xfe" {
		t.Errorf("Bytes of the highest: %q", s)
	}
	if s := greatest().Bytes(); s != strings.Repeat("\xff", 64) {
		t.Errorf("Bytes of the greatest: %q", s)
	}
}

func TestDecimal(t *testing.T) {
	for s, w := range map[string]limb.Wide{
		"0":                    {},
		"7":                    limb.Of(7),
		"10":                   limb.Of(10),
		"18446744073709551615": limb.Of(math.MaxUint64),
		"18446744073709551616": {0, 1},
		"340282366920938463463374607431768211456": {0, 0, 1},
	} {
		if got, e := limb.Decimal(s); e != api.OK || got != w {
			t.Errorf("Decimal(%q): %v, %v", s, got, e)
		}
	}
	last := new(big.Int).Sub(over, one).String()
	if w, e := limb.Decimal(last); e != api.OK || w != greatest() {
		t.Errorf("Decimal of 2^512 - 1: %v, %v", w, e)
	}
}

func TestDecimalForm(t *testing.T) {
	nines := strings.Repeat("9", 200)
	for _, s := range []string{
		"", "00", "01", "007", "+1", "-1", " 1", "1 ", "1_0", "1a", "a", "0x10", "1.0", "/", ":", "\x00", "٣",
		"0" + nines, nines + "a", nines + " ",
	} {
		if w, e := limb.Decimal(s); e != api.ErrForm || w != (limb.Wide{}) {
			t.Errorf("Decimal(%q): %v, %v", s, w, e)
		}
	}
}

func TestDecimalRange(t *testing.T) {
	for _, s := range []string{
		over.String(),
		new(big.Int).Add(over, one).String(),
		strings.Repeat("9", 155),
		"1" + strings.Repeat("0", 155),
		strings.Repeat("1", 100000),
	} {
		if w, e := limb.Decimal(s); e != api.ErrRange || w != (limb.Wide{}) {
			t.Errorf("Decimal of %d digits: %v, %v", len(s), w, e)
		}
	}
}

func TestDigits(t *testing.T) {
	l := samples(3000)
	for p := big.NewInt(1); fits(p); p = new(big.Int).Mul(p, big.NewInt(10)) {
		l = append(l, fromBig(p), fromBig(new(big.Int).Sub(p, one)))
	}
	for _, w := range l {
		if s := w.Digits(); s != toBig(w).String() {
			t.Errorf("Digits of %v: %s", w, s)
		}
	}
}

func TestComesBack(t *testing.T) {
	for _, w := range samples(3000) {
		if v, e := limb.Parse(w.Bytes()); e != api.OK || v != w || len(w.Bytes()) != 64 {
			t.Errorf("Bytes of %v: %v, %v", w, v, e)
		}
		if v, e := limb.Decimal(w.Digits()); e != api.OK || v != w {
			t.Errorf("Digits of %v: %v, %v", w, v, e)
		}
	}
}
