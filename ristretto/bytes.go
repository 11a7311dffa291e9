package ristretto

import (
	"opaline/api"
	"opaline/curve"
	"opaline/field"
)

// rootBelow is 1 by the root of -1 - d (RFC 9496's INVSQRT_A_MINUS_D).
var rootBelow = api.Bytes{
	0xea, 0x40, 0x5d, 0x80, 0xaa, 0xfd, 0xc8, 0x99, 0xbe, 0x72, 0x41, 0x5a, 0x17, 0x16, 0x2f, 0x9d,
	0x40, 0xd8, 0x01, 0xfe, 0x91, 0x7b, 0xc2, 0x16, 0xa2, 0xfc, 0xaf, 0xcf, 0x05, 0x89, 0x6c, 0x78,
}

// Parse: the element of bytes.
func Parse(b api.Bytes) (Element, api.Errno) {
	s, e := field.Parse(b)
	if e != api.OK || s.Negative() {
		return Identity(), api.ErrPoint
	}
	x, y, square := decode(s)
	t := x.Mul(y)
	if !square || t.Negative() || y.Zero() {
		return Identity(), api.ErrPoint
	}
	return Of(curve.Of(x, y, field.Of(1), t)), api.OK
}

// decode: the x and y to which s leads (RFC 9496, 4.3.1), and whether the root in them is one.
func decode(s field.Element) (x, y field.Element, square bool) {
	one, squared := field.Of(1), s.Square()
	u1, u2 := one.Sub(squared), one.Add(squared)
	v := curve.D().Mul(u1.Square()).Neg().Sub(u2.Square())
	root, square := field.Ratio(one, v.Mul(u2.Square()))
	belowX := root.Mul(u2)
	belowY := root.Mul(belowX).Mul(v)
	return s.Add(s).Mul(belowX).Abs(), u1.Mul(belowY), square
}

// Read: an element that isn't the identity.
func Read(b api.Bytes) (Element, api.Errno) {
	out, e := Parse(b)
	if e == api.OK && out.None() {
		e = api.ErrZero
	}
	return out, e
}

// Bytes: an element's.
func (e Element) Bytes() api.Bytes {
	// RFC 9496, 4.3.2. Where x y is 0, the root is 0, and so are the bytes: the identity's.
	x, y, z, t := e.point.Parts()
	u1, u2 := z.Add(y).Mul(z.Sub(y)), x.Mul(y)
	root, _ := field.Ratio(field.Of(1), u1.Mul(u2.Square()))
	below1, below := root.Mul(u1), root.Mul(u2)
	byZ := below1.Mul(below).Mul(t)
	// Of the four points that one is told whose x y and x aren't negative.
	if t.Mul(byZ).Negative() {
		x, y = y.Mul(field.I()), x.Mul(field.I())
		below = below1.Mul(field.Loose(rootBelow))
	}
	if x.Mul(byZ).Negative() {
		y = y.Neg()
	}
	return z.Sub(y).Mul(below).Abs().Bytes()
}
