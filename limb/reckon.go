package limb

import (
	"math"
	"math/bits"

	"opaline/api"
)

// A step reckons one word of two numbers, with what the word below carried, and answers what it carries itself.
type step func(x, y, carry uint64) (uint64, uint64)

func addStep(x, y, carry uint64) (uint64, uint64) { return bits.Add64(x, y, carry) }

func subStep(x, y, carry uint64) (uint64, uint64) { return bits.Sub64(x, y, carry) }

// each: a step, word by word from the lowest on, and what the highest carries.
func (w Wide) each(v Wide, one step) (Wide, uint64) {
	var out Wide
	var carry uint64
	for i := range words {
		out[i], carry = one(w[i], v[i], carry)
	}
	return out, carry
}

// Add: a sum.
func (w Wide) Add(v Wide) (Wide, bool) {
	out, carry := w.each(v, addStep)
	return out, carry == 0
}

// Sub: a difference.
func (w Wide) Sub(v Wide) (Wide, bool) {
	out, carry := w.each(v, subStep)
	return out, carry == 0
}

// Mul: a product.
func (w Wide) Mul(v Wide) (Wide, bool) {
	low, high := w.product(v)
	return low, high == Wide{}
}

// product: all of it, in two Wides. Words that are noughts at the top are left out, for most numbers are short.
func (w Wide) product(v Wide) (low, high Wide) {
	var out [2 * words]uint64
	n := v.used()
	for i := range w.used() {
		var carry uint64
		for j := range n {
			out[i+j], carry = mulStep(w[i], v[j], out[i+j], carry)
		}
		out[i+n] = carry
	}
	for i := range words {
		low[i], high[i] = out[i], out[words+i]
	}
	return low, high
}

// mulStep: x y + more + carry, its low word and its high one; that always fits, for (2^64 - 1)^2 + 2 (2^64 - 1) is 2^128 - 1.
func mulStep(x, y, more, carry uint64) (uint64, uint64) {
	high, low := bits.Mul64(x, y)
	low, over := bits.Add64(low, more, 0)
	high += over
	low, over = bits.Add64(low, carry, 0)
	return low, high + over
}

// mulWord: w n + more, and what doesn't fit.
func (w Wide) mulWord(n, more uint64) (Wide, uint64) {
	var out Wide
	for i := range words {
		out[i], more = mulStep(w[i], n, 0, more)
	}
	return out, more
}

// Div: how often, and what is left.
func (w Wide) Div(v Wide) (Wide, Wide, api.Errno) {
	if v == (Wide{}) {
		return Wide{}, Wide{}, api.ErrZero
	}
	if w.Cmp(v) < 0 {
		return Wide{}, w, api.OK
	}
	if v.used() == 1 {
		often, left := w.divWord(v[0])
		return often, Of(left), api.OK
	}
	often, left := w.divLong(v)
	return often, left, api.OK
}

// divWord: by one word, which isn't 0. What is left is always below n, so that Div64 may be asked.
func (w Wide) divWord(n uint64) (Wide, uint64) {
	var out Wide
	var left uint64
	for i := words - 1; i >= 0; i-- {
		out[i], left = bits.Div64(left, w[i], n)
	}
	return out, left
}

// divLong: by two words or more, as on paper (Knuth's algorithm D): both numbers are shifted till v's highest bit stands at the top of its word, for then a word guessed from the highest ones is nearly right.
func (w Wide) divLong(v Wide) (Wide, Wide) {
	n := v.used()
	by := bits.LeadingZeros64(v[n-1])
	v = v.up(by)
	rest := spread(w, by)
	var out Wide
	for i := words - n; i >= 0; i-- {
		out[i] = divStep(rest[i:i+n+1], v[:n])
	}
	var left Wide
	copy(left[:], rest[:])
	return out, left.down(by)
}

// spread: w shifted up by less than a word, with a word more for what goes over the top.
func spread(w Wide, by int) [words + 1]uint64 {
	var out [words + 1]uint64
	low := w.up(by)
	copy(out[:], low[:])
	out[words] = w[words-1] >> (wordBits - by)
	return out
}

// divStep: how often v goes into rest, which is one word longer, and is made what is left. The guess is right, or one too many.
func divStep(rest, v []uint64) uint64 {
	n := len(v)
	often := guess(rest[n], rest[n-1], rest[n-2], v[n-1], v[n-2])
	if takeTimes(rest, v, often) {
		often--
		putBack(rest, v)
	}
	return often
}

// guess: a word of how often, from the three highest words of what is left and the two highest of v.
func guess(top, next, third, v1, v2 uint64) uint64 {
	if top >= v1 {
		return math.MaxUint64
	}
	often, left := bits.Div64(top, next, v1)
	for {
		high, low := bits.Mul64(often, v2)
		if high < left || high == left && low <= third {
			return often
		}
		often--
		var over uint64
		left, over = bits.Add64(left, v1, 0)
		if over != 0 {
			return often
		}
	}
}

// takeTimes: v, so often, is taken off rest; and whether that went below 0.
func takeTimes(rest, v []uint64, often uint64) bool {
	var carry, borrow uint64
	for i, word := range v {
		var off uint64
		off, carry = mulStep(word, often, 0, carry)
		rest[i], borrow = bits.Sub64(rest[i], off, borrow)
	}
	rest[len(v)], borrow = bits.Sub64(rest[len(v)], carry, borrow)
	return borrow != 0
}

// putBack: v is put back once. What it carries over the top meets the borrow that takeTimes left there, and both are gone.
func putBack(rest, v []uint64) {
	var carry uint64
	for i, word := range v {
		rest[i], carry = bits.Add64(rest[i], word, carry)
	}
	rest[len(v)] += carry
}
