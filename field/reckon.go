package field

import "math/bits"

const (
	lowest63 = 1<<63 - 1
	over     = 19 // 2^255, modulo p: what a bit over the top counts
)

// settle: the Element of four words and of so many times 2^256, which are below 2^32.
func settle(a, b, c, d, more uint64) Element {
	// What is left is below 2^255 + 2^38: p goes into it once at most, and just where 19 more would reach 2^255.
	a, b, c, d = plus(a, b, c, d&lowest63, over*(more<<1|d>>63))
	_, _, _, top := plus(a, b, c, d, over)
	// Taking p off is adding 19 and dropping 2^255.
	a, b, c, d = plus(a, b, c, d, over*(top>>63))
	return Element{a, b, c, d & lowest63}
}

// plus: a word more.
func plus(a, b, c, d, n uint64) (uint64, uint64, uint64, uint64) {
	a, carry := bits.Add64(a, n, 0)
	b, carry = bits.Add64(b, 0, carry)
	c, carry = bits.Add64(c, 0, carry)
	return a, b, c, d + carry
}

// Add: a sum.
func (x Element) Add(y Element) Element {
	a, carry := bits.Add64(x.a, y.a, 0)
	b, carry := bits.Add64(x.b, y.b, carry)
	c, carry := bits.Add64(x.c, y.c, carry)
	return settle(a, b, c, x.d+y.d+carry, 0)
}

// Neg: what is taken off 0.
func (x Element) Neg() Element {
	// Taken off p; of 0 that is p itself, which settles as 0.
	a, borrow := bits.Sub64(prime[0], x.a, 0)
	b, borrow := bits.Sub64(prime[1], x.b, borrow)
	c, borrow := bits.Sub64(prime[2], x.c, borrow)
	return settle(a, b, c, prime[3]-x.d-borrow, 0)
}

// Sub: a difference.
func (x Element) Sub(y Element) Element { return x.Add(y.Neg()) }

// Mul: a product.
func (x Element) Mul(y Element) Element {
	var sums [8]uint64
	for i, n := range [4]uint64{y.a, y.b, y.c, y.d} {
		sums[i], sums[i+1], sums[i+2], sums[i+3], sums[i+4] = x.times(n, sums[i], sums[i+1], sums[i+2], sums[i+3])
	}
	// The four words at the top stand for 2^256 times as much, which is 38, modulo p.
	top := Element{sums[4], sums[5], sums[6], sums[7]}
	return settle(top.times(2*over, sums[0], sums[1], sums[2], sums[3]))
}

// times: x n, and four words more, in five words. That always fits, for (2^256 - 1) (2^64 - 1) + 2^256 - 1 is below 2^320.
func (x Element) times(n, a, b, c, d uint64) (uint64, uint64, uint64, uint64, uint64) {
	high0, low0 := bits.Mul64(x.a, n)
	high1, low1 := bits.Mul64(x.b, n)
	high2, low2 := bits.Mul64(x.c, n)
	high3, low3 := bits.Mul64(x.d, n)
	low1, carry := bits.Add64(low1, high0, 0)
	low2, carry = bits.Add64(low2, high1, carry)
	low3, carry = bits.Add64(low3, high2, carry)
	high3 += carry
	a, carry = bits.Add64(a, low0, 0)
	b, carry = bits.Add64(b, low1, carry)
	c, carry = bits.Add64(c, low2, carry)
	d, carry = bits.Add64(d, low3, carry)
	return a, b, c, d, high3 + carry
}

// Square: times itself.
func (x Element) Square() Element { return x.Mul(x) }
