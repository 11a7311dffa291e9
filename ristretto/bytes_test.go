package ristretto_test

import (
	"encoding/hex"
	"math/big"
	"slices"
	"testing"

	"opaline/api"
	"opaline/curve"
	"opaline/field"
	"opaline/ristretto"
	"opaline/scalar"
)

const dDigits = "37095705934669439343138083508754565189542113879843219016388785533085940283555"

var (
	one   = big.NewInt(1)
	prime = new(big.Int).Sub(new(big.Int).Lsh(one, 255), big.NewInt(19))
)

func bigOf(b api.Bytes) *big.Int {
	slices.Reverse(b[:])
	return new(big.Int).SetBytes(b[:])
}

func bytesOf(n *big.Int) api.Bytes {
	var b api.Bytes
	n.FillBytes(b[:])
	slices.Reverse(b[:])
	return b
}

func fromHex(t *testing.T, s string) api.Bytes {
	t.Helper()
	l, err := hex.DecodeString(s)
	if err != nil || len(l) != 32 {
		t.Fatalf("%q", s)
	}
	return api.Bytes(l)
}

// multiples are RFC 9496's, A.1: the base, from no times to fifteen times.
var multiples = []string{
	"0000000000000000000000000000000000000000000000000000000000000000",
	"e2f2ae0a6abc4e71a884a961c500515f58e30b6aa582dd8db6a65945e08d2d76",
	"6a493210f7499cd17fecb510ae0cea23a110e8d5b901f8acadd3095c73a3b919",
	"94741f5d5d52755ece4f23f044ee27d5d1ea1e2bd196b462166b16152a9d0259",
	"da80862773358b466ffadfe0b3293ab3d9fd53c5ea6c955358f568322daf6a57",
	"e882b131016b52c1d3337080187cf768423efccbb517bb495ab812c4160ff44e",
	"f64746d3c92b13050ed8d80236a7f0007c3b3f962f5ba793d19a601ebb1df403",
	"44f53520926ec81fbd5a387845beb7df85a96a24ece18738bdcfa6a7822a176d",
	"903293d8f2287ebe10e2374dc1a53e0bc887e592699f02d077d5263cdd55601c",
	"02622ace8f7303a31cafc63f8fc48fdc16e1c8c8d234b2f0d6685282a9076031",
	"20706fd788b2720a1ed2a5dad4952b01f413bcf0e7564de8cdc816689e2db95f",
	"bce83f8ba5dd2fa572864c24ba1810f9522bc6004afe95877ac73241cafdab42",
	"e4549ee16b9aa03099ca208c67adafcafa4c3f3e4e5303de6026e3ca8ff84460",
	"aa52e000df2e16f55fb1032fc33bc42742dad6bd5a8fc0be0167436c5948501f",
	"46376b80f409b29dc2b5f6f0c52591990896e5716f41477cd30085ab7f10301e",
	"e0c418f7c8d9c4cdd7395b93ea124f3ad99021bb681dfc3302a9d99a2e53e64e",
}

// refused are RFC 9496's, A.2: not below p, negative, without a root, with a negative x y, with a y of 0.
var refused = []string{
	"00ffffffffffffffffffffffffffffffffffffffffffffffffffffffffffffff",
	"ffffffffffffffffffffffffffffffffffffffffffffffffffffffffffffff7f",
	"f3ffffffffffffffffffffffffffffffffffffffffffffffffffffffffffff7f",
	"edffffffffffffffffffffffffffffffffffffffffffffffffffffffffffff7f",
	"0100000000000000000000000000000000000000000000000000000000000000",
	"01ffffffffffffffffffffffffffffffffffffffffffffffffffffffffffff7f",
	"ed57ffd8c914fb201471d1c3d245ce3c746fcbe63a3679d51b6a516ebebe0e20",
	"c34c4e1826e5d403b78e246e88aa051c36ccf0aafebffe137d148a2bf9104562",
	"c940e5a4404157cfb1628b108db051a8d439e1a421394ec4ebccb9ec92a8ac78",
	"47cfc5497c53dc8e61c91d17fd626ffb1c49e2bca94eed052281b510b1117a24",
	"f1c6165d33367351b0da8f6e4511010c68174a03b6581212c71c0e1d026c3c72",
	"87260f7a2f12495118360f02c26a470f450dadf34a413d21042b43b9d93e1309",
	"26948d35ca62e643e26a83177332e6b6afeb9d08e4268b650f1f5bbd8d81d371",
	"4eac077a713c57b4f4397629a4145982c661f48044dd3f96427d40b147d9742f",
	"de6a7b00deadc788eb6b6c8d20c0ae96c2f2019078fa604fee5b87d6e989ad7b",
	"bcab477be20861e01e4a0e295284146a510150d9817763caf1a6f4b422d67042",
	"2a292df7e32cababbd9de088d1d1abec9fc0440f637ed2fba145094dc14bea08",
	"f4a9e534fc0d216c44b218fa0c42d99635a0127ee2e53c712f70609649fdff22",
	"8268436f8c4126196cf64b3c7ddbda90746a378625f9813dd9b8457077256731",
	"2810e5cbc2cc4d4eece54f61c6f69758e289aa7ab440b3cbeaa21995c2f4232b",
	"3eb858e78f5a7254d8c9731174a94f76755fd3941c0ac93735c07ba14579630e",
	"a45fdc55c76448c049a1ab33f17023edfb2be3581e9c7aade8a6125215e04220",
	"d483fe813c6ba647ebbfd3ec41adca1c6130c2beeee9d9bf065c8d151c5f396e",
	"8a2e1d30050198c65a54483123960ccc38aef6848e1ec8f5f780e8523769ba32",
	"32888462f8b486c68ad7dd9610be5192bbeaf3b443951ac1a8118419d9fa097b",
	"227142501b9d4355ccba290404bde41575b037693cef1f438c47f8fbf35d1165",
	"5c37cc491da847cfeb9281d407efc41e15144c876e0170b499a96a22ed31e01e",
	"445425117cb8c90edcbc7c1cc0e74f747f2c1efa5630a967c64f287792a48a4b",
	"ecffffffffffffffffffffffffffffffffffffffffffffffffffffffffffff7f",
}

func TestMultiples(t *testing.T) {
	e := ristretto.Identity()
	for n, s := range multiples {
		want := fromHex(t, s)
		if e.Bytes() != want || ristretto.Base().Times(scalar.Of(uint64(n))).Bytes() != want {
			t.Errorf("the base %d times: %x", n, e.Bytes())
		}
		f, err := ristretto.Parse(want)
		if err != api.OK || !f.Same(e) {
			t.Errorf("Parse of the base %d times: %v", n, err)
		}
		e = e.Add(ristretto.Base())
	}
}

// isIdentity: is it the identity, and not the zero Element, of which that can't be told by None?
func isIdentity(e ristretto.Element) bool {
	_, _, z, _ := e.Point().Parts()
	return e.None() && !z.Zero() && e.Bytes() == api.Bytes{}
}

func TestRefused(t *testing.T) {
	for _, s := range refused {
		refuse(t, fromHex(t, s))
	}
}

func refuse(t *testing.T, b api.Bytes) {
	t.Helper()
	if e, err := ristretto.Parse(b); err != api.ErrPoint || !isIdentity(e) {
		t.Errorf("Parse of %x: %x, %v", b, e.Bytes(), err)
	}
	if e, err := ristretto.Read(b); err != api.ErrPoint || !isIdentity(e) {
		t.Errorf("Read of %x: %x, %v", b, e.Bytes(), err)
	}
}

// TestOtherTexts: of one element's bytes those that are alike modulo p, or but for the highest bit, or negative, aren't read.
func TestOtherTexts(t *testing.T) {
	for _, e := range elements(40) {
		b := e.Bytes()
		high := b
		high[31] |= 128
		refuse(t, high)
		if n := bigOf(b); n.Sign() != 0 {
			refuse(t, bytesOf(new(big.Int).Sub(prime, n)))
		}
	}
	for n := range int64(19) {
		refuse(t, bytesOf(new(big.Int).Add(prime, big.NewInt(n))))
	}
	refuse(t, field.I().Bytes())
	refuse(t, field.I().Neg().Bytes())
	refuse(t, api.Bytes{31: 128})
}

func TestRead(t *testing.T) {
	if e, err := ristretto.Read(api.Bytes{}); err != api.ErrZero || !isIdentity(e) {
		t.Errorf("Read of the identity: %v", err)
	}
	if e, err := ristretto.Parse(api.Bytes{}); err != api.OK || !isIdentity(e) {
		t.Errorf("Parse of the identity: %v", err)
	}
	for _, e := range elements(40)[1:] {
		f, err := ristretto.Read(e.Bytes())
		if err != api.OK || !f.Same(e) || f.Bytes() != e.Bytes() {
			t.Errorf("Read of %x: %v", e.Bytes(), err)
		}
	}
}

// led is where bytes lead by RFC 9496, 4.3.1, in the library's numbers and with quotients; false, where to none.
func led(b api.Bytes) (x, y *big.Int, ok bool) {
	d, _ := new(big.Int).SetString(dDigits, 10)
	s := bigOf(b)
	if s.Cmp(prime) >= 0 || s.Bit(0) == 1 {
		return nil, nil, false
	}
	squared := mul(s, s)
	u1, u2 := sub(one, squared), sub(squared, sub(prime, one))
	v := sub(sub(big.NewInt(0), mul(d, u1, u1)), mul(u2, u2))
	// x is 2 s by the root of v, y is u1 by u2.
	root := new(big.Int).ModSqrt(v, prime)
	if root == nil || root.Sign() == 0 || u2.Sign() == 0 {
		return nil, nil, false
	}
	x = mul(s, big.NewInt(2), new(big.Int).ModInverse(root, prime))
	if x.Bit(0) == 1 {
		x = sub(big.NewInt(0), x)
	}
	y = mul(u1, new(big.Int).ModInverse(u2, prime))
	return x, y, y.Sign() != 0 && mul(x, y).Bit(0) == 0
}

func mul(l ...*big.Int) *big.Int {
	out := one
	for _, x := range l {
		out = new(big.Int).Mul(out, x)
		out.Mod(out, prime)
	}
	return out
}

func sub(x, y *big.Int) *big.Int {
	out := new(big.Int).Sub(x, y)
	return out.Mod(out, prime)
}

// TestParseLeads: Parse tells the very point to which the bytes lead, and refuses all that lead to none.
func TestParseLeads(t *testing.T) {
	l := chances(2, 1000)
	for i := range l {
		if i%4 != 0 {
			l[i][0] &= 254
			l[i][31] &= 127
		}
	}
	for n := range byte(200) {
		l = append(l, api.Bytes{n})
	}
	read := 0
	for _, b := range l {
		x, y, ok := led(b)
		if !ok {
			refuse(t, b)
			continue
		}
		read++
		e, err := ristretto.Parse(b)
		if err != api.OK || e.Bytes() != b {
			t.Fatalf("Parse of %x: %x, %v", b, e.Bytes(), err)
		}
		sound(t, "Parse", e)
		if number(e.Point().X()).Cmp(x) != 0 || number(e.Point().Y()).Cmp(y) != 0 {
			t.Fatalf("Parse of %x leads to another point", b)
		}
	}
	if read < 100 {
		t.Errorf("%d are read", read)
	}
}

// TestPointOfRead: of what was read the point is that to which the bytes lead, whichever of the four they were told of.
func TestPointOfRead(t *testing.T) {
	for i, e := range elements(40) {
		for _, small := range few(t) {
			b := ristretto.Of(e.Point().Add(small)).Bytes()
			x, y, ok := led(b)
			if !ok {
				t.Fatalf("the bytes of %d lead to none", i)
			}
			f, _ := ristretto.Parse(b)
			g, _ := ristretto.Read(b)
			for _, p := range []curve.Point{f.Point(), g.Point()} {
				if number(p.X()).Cmp(x) != 0 || number(p.Y()).Cmp(y) != 0 {
					t.Errorf("%d leads to another point", i)
				}
			}
			if !f.Same(e) {
				t.Errorf("%d is read as another one", i)
			}
		}
	}
}
