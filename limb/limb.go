// Package limb is layer 1: see shared/doc/01-limb.md.
package limb

import (
	"math/bits"
	"strconv"
	"strings"

	"opaline/api"
)

// Wide is a number of 512 bits, the lowest word first.
type Wide [8]uint64

const (
	words     = 8
	wordBits  = 64
	wordBytes = 8
	allBits   = words * wordBits
	allBytes  = words * wordBytes
)

// The greatest power of ten that a word holds, so that digits come many at a time.
const (
	tens      = 10_000_000_000_000_000_000
	tensCount = 19
)

// Of: a small one.
func Of(n uint64) Wide { return Wide{n} }

// Parse: of bytes.
func Parse(s string) (Wide, api.Errno) {
	if len(s) > allBytes {
		return Wide{}, api.ErrLong
	}
	var w Wide
	for i := range len(s) {
		w[i/wordBytes] |= uint64(s[i]) << (8 * (i % wordBytes))
	}
	return w, api.OK
}

// Bytes: the lowest first.
func (w Wide) Bytes() string {
	var out [allBytes]byte
	for i := range allBytes {
		out[i] = byte(w[i/wordBytes] >> (8 * (i % wordBytes)))
	}
	return string(out[:])
}

// Decimal: the number of digits.
func Decimal(s string) (Wide, api.Errno) {
	// The form is asked ahead of the range: a text that is no number is never too great.
	if !isNumber(s) {
		return Wide{}, api.ErrForm
	}
	var w Wide
	for i := range len(s) {
		next, over := w.mulWord(10, uint64(s[i]-'0'))
		if over != 0 {
			return Wide{}, api.ErrRange
		}
		w = next
	}
	return w, api.OK
}

func isNumber(s string) bool {
	if s == "" || len(s) > 1 && s[0] == '0' {
		return false
	}
	for i := range len(s) {
		if s[i] < '0' || s[i] > '9' {
			return false
		}
	}
	return true
}

// Digits: in decimal.
func (w Wide) Digits() string {
	text := ""
	for {
		rest, low := w.divWord(tens)
		part := strconv.FormatUint(low, 10)
		if rest == (Wide{}) {
			return part + text
		}
		text = strings.Repeat("0", tensCount-len(part)) + part + text
		w = rest
	}
}

// Cmp: which one is greater.
func (w Wide) Cmp(v Wide) int {
	for i := words - 1; i >= 0; i-- {
		if w[i] < v[i] {
			return -1
		}
		if w[i] > v[i] {
			return 1
		}
	}
	return 0
}

// Bit: of a power of 2.
func (w Wide) Bit(i int) uint {
	if i < 0 || i >= allBits {
		return 0
	}
	return uint(w[i/wordBits] >> (i % wordBits) & 1)
}

// Len: how many bits.
func (w Wide) Len() int {
	n := w.used()
	if n == 0 {
		return 0
	}
	return (n-1)*wordBits + bits.Len64(w[n-1])
}

// used: how many words, without the noughts at the top.
func (w Wide) used() int {
	n := words
	for n > 0 && w[n-1] == 0 {
		n--
	}
	return n
}

// Shift: times a power of 2.
func (w Wide) Shift(n int) Wide {
	// Asked first, since the least of all ints can't be turned about.
	if n >= allBits || n <= -allBits {
		return Wide{}
	}
	if n < 0 {
		return w.down(-n)
	}
	return w.up(n)
}

// up: n is from 0 to 511. A word shifted by all its 64 bits is 0, so whole words need no case of their own.
func (w Wide) up(n int) Wide {
	far, near := n/wordBits, n%wordBits
	var out Wide
	for i := far; i < words; i++ {
		out[i] = w[i-far] << near
		if i > far {
			out[i] |= w[i-far-1] >> (wordBits - near)
		}
	}
	return out
}

// down: likewise.
func (w Wide) down(n int) Wide {
	far, near := n/wordBits, n%wordBits
	var out Wide
	for i := far; i < words; i++ {
		out[i-far] = w[i] >> near
		if i+1 < words {
			out[i-far] |= w[i+1] << (wordBits - near)
		}
	}
	return out
}
