// Package sha is layer 2: see shared/doc/02-sha.md.
package sha

import (
	"math/bits"
	"strings"

	"opaline/api"
)

const (
	blockSize  = 128 // bytes that are mixed in at once
	lengthSize = 16  // bytes at the end that tell how long all was
	rounds     = 80
)

// Key: one of them.
func Key(i int) uint64 {
	if i < 0 || i >= rounds {
		return 0
	}
	return keys[i]
}

// Sum: of parts.
func Sum(parts ...string) api.Sum {
	h := hash{state: start}
	for _, part := range parts {
		h.take(part)
	}
	return h.end()
}

// Short: a sum's first bytes.
func Short(n int, parts ...string) string {
	if n < 1 {
		return ""
	}
	sum := Sum(parts...)
	return string(sum[:min(n, api.Hash)])
}

// A hash is a sum under way: parts are taken as they come, so that they needn't be put together first.
type hash struct {
	state [8]uint64
	block [blockSize]byte
	used  int    // bytes of block
	total uint64 // bytes that were taken
}

func (h *hash) take(text string) {
	h.total += uint64(len(text))
	for len(text) > 0 {
		n := copy(h.block[h.used:], text)
		text = text[n:]
		h.used += n
		if h.used == blockSize {
			h.state = mix(h.state, schedule(h.block))
			h.used = 0
		}
	}
}

// end: FIPS 180-4's padding fills the last block, and what it comes to is told.
func (h *hash) end() api.Sum {
	length := bigEndian(h.total>>61) + bigEndian(h.total<<3)
	noughts := (2*blockSize - lengthSize - 1 - h.used) % blockSize
	h.take("\x80" + strings.Repeat("\x00", noughts) + length)
	var out api.Sum
	for i := range out {
		out[i] = byte(h.state[i/8] >> (56 - 8*(i%8)))
	}
	return out
}

func bigEndian(n uint64) string {
	var out [8]byte
	for i := range out {
		out[i] = byte(n >> (56 - 8*i))
	}
	return string(out[:])
}

// schedule: a word for each round, of a block.
func schedule(block [blockSize]byte) [rounds]uint64 {
	var w [rounds]uint64
	for i := range blockSize {
		w[i/8] = w[i/8]<<8 | uint64(block[i])
	}
	for i := 16; i < rounds; i++ {
		x, y := w[i-15], w[i-2]
		small := turn(x, 1) ^ turn(x, 8) ^ x>>7
		great := turn(y, 19) ^ turn(y, 61) ^ y>>6
		w[i] = w[i-16] + small + w[i-7] + great
	}
	return w
}

// mix: the state behind a block.
func mix(state [8]uint64, w [rounds]uint64) [8]uint64 {
	a, b, c, d := state[0], state[1], state[2], state[3]
	e, f, g, h := state[4], state[5], state[6], state[7]
	for i := range rounds {
		choice := e&f ^ ^e&g
		most := a&b ^ a&c ^ b&c
		one := h + (turn(e, 14) ^ turn(e, 18) ^ turn(e, 41)) + choice + keys[i] + w[i]
		two := (turn(a, 28) ^ turn(a, 34) ^ turn(a, 39)) + most
		a, b, c, d, e, f, g, h = one+two, a, b, c, d+one, e, f, g
	}
	for i, x := range [8]uint64{a, b, c, d, e, f, g, h} {
		state[i] += x
	}
	return state
}

// turn: to the right, as FIPS 180-4 names its turns.
func turn(x uint64, n int) uint64 { return bits.RotateLeft64(x, -n) }
