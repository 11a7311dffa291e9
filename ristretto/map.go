package ristretto

import (
	"opaline/api"
	"opaline/curve"
	"opaline/field"
)

// rootOver is the root of -1 - d that is negative (RFC 9496's SQRT_AD_MINUS_ONE).
var rootOver = api.Bytes{
	0x1b, 0x2e, 0x7b, 0x49, 0xa0, 0xf6, 0x97, 0x7e, 0xbd, 0x54, 0x78, 0x1b, 0x0c, 0x8e, 0x9d, 0xaf,
	0xfd, 0xd1, 0xf5, 0x31, 0xc9, 0xfc, 0x3c, 0x0f, 0xac, 0x48, 0x83, 0x2b, 0xbf, 0x31, 0x69, 0x37,
}

// Map: of 64 bytes.
func Map(s string) (Element, api.Errno) {
	if len(s) != 2*api.Group {
		return Identity(), api.ErrForm
	}
	var low, high api.Bytes
	copy(low[:], s[:api.Group])
	copy(high[:], s[api.Group:])
	return Half(low).Add(Half(high)), api.OK
}

// Half: MAP.
func Half(b api.Bytes) Element {
	s, v, n := quartic(field.Loose(b))
	one, squared := field.Of(1), s.Square()
	w0, w1 := s.Add(s).Mul(v), n.Mul(field.Loose(rootOver))
	w2, w3 := one.Sub(squared), one.Add(squared)
	// Neither w1 nor w3 is ever 0: where they were, d or -d would have a root, and neither has.
	return Of(curve.Of(w0.Mul(w3), w2.Mul(w1), w1.Mul(w3), w0.Mul(w2)))
}

// quartic: the s, v and N to which t leads (RFC 9496, 4.3.4).
func quartic(t field.Element) (s, v, n field.Element) {
	one, d := field.Of(1), curve.D()
	r := field.I().Mul(t.Square())
	u := r.Add(one).Mul(one.Sub(d.Square()))
	v = one.Add(r.Mul(d)).Neg().Mul(r.Add(d))
	s, square := field.Ratio(u, v)
	c := one.Neg()
	if !square {
		s, c = s.Mul(t).Abs().Neg(), r
	}
	return s, v, c.Mul(r.Sub(one)).Mul(d.Sub(one).Square()).Sub(v)
}
