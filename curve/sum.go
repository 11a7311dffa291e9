package curve

import (
	"opaline/field"
	"opaline/scalar"
)

// Add: a sum.
func (p Point) Add(q Point) Point {
	// With all of it twice, the sums crosswise come by two products: (y1 + x1) (y2 + x2) less (y1 - x1) (y2 - x2) is 2 (x1 y2 + x2 y1), and with it 2 (y1 y2 + x1 x2).
	low := p.y.Sub(p.x).Mul(q.y.Sub(q.x))
	high := p.y.Add(p.x).Mul(q.y.Add(q.x))
	z := twice(p.z.Mul(q.z))
	t := twice(p.t.Mul(q.t).Mul(D()))
	return quotients(high.Sub(low), z.Add(t), high.Add(low), z.Sub(t))
}

// Double: with itself.
func (p Point) Double() Point {
	// The curve itself says that z^2 + d t^2 is y^2 - x^2, so that neither d nor t is needed.
	x, y, z := p.x.Square(), p.y.Square(), twice(p.z.Square())
	below := y.Sub(x)
	return quotients(twice(p.x.Mul(p.y)), below, y.Add(x), z.Sub(below))
}

// quotients: the point whose x is a / b, and whose y is c / e. The b and e of a sum are never 0, for d has no root, and -1 has one.
func quotients(a, b, c, e field.Element) Point {
	return Point{a.Mul(e), b.Mul(c), b.Mul(e), a.Mul(c)}
}

// twice: with itself.
func twice(x field.Element) field.Element { return x.Add(x) }

// Neg: what it comes to nothing with.
func (p Point) Neg() Point { return Point{p.x.Neg(), p.y, p.z, p.t.Neg()} }

// Times: so often.
func (p Point) Times(a scalar.Scalar) Point {
	out := Neutral()
	for bit := range a.Bits() {
		out = out.Double()
		if bit == 1 {
			out = out.Add(p)
		}
	}
	return out
}

// Sum: of all of them.
func Sum(l ...Point) Point {
	out := Neutral()
	for _, p := range l {
		out = out.Add(p)
	}
	return out
}
