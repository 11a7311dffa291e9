package field

import "math/bits"

// Invert: what times it is 1.
func (x Element) Invert() Element {
	// To the power p - 2, which is 32 (2^250 - 1) + 11.
	eleven := x.squares(3).Mul(x.Square()).Mul(x)
	return x.ones().squares(5).Mul(eleven)
}

// Root: to the power (p - 5) / 8.
func (x Element) Root() Element {
	// Which is 4 (2^250 - 1) + 1.
	return x.ones().squares(2).Mul(x)
}

// squares: squared n times.
func (x Element) squares(n int) Element {
	for range n {
		x = x.Square()
	}
	return x
}

// ones: to the power 2^250 - 1, of which all 250 bits are 1, so that few products do: as many bits again come by squaring and one product.
func (x Element) ones() Element {
	const wanted = 250
	out, have := x, 1
	for i := bits.Len(wanted) - 2; i >= 0; i-- {
		out, have = out.squares(have).Mul(out), 2*have
		if have < wanted>>i {
			out, have = out.Square().Mul(x), have+1
		}
	}
	return out
}

// Ratio: the root of a quotient, or of i times it.
func Ratio(u, v Element) (Element, bool) {
	cube := v.Square().Mul(v)
	seventh := cube.Square().Mul(v)
	root := u.Mul(cube).Mul(u.Mul(seventh).Root())
	// Its square, times v, is u or -u, where there is a root, else i u or -i u (RFC 9496, 4.2). Where the sign is wrong, a root of -1 turns it.
	found := root.Square().Mul(v)
	if found != u && found != u.Mul(I()) {
		root = root.Mul(I())
	}
	return root.Abs(), found == u || found == u.Neg()
}
