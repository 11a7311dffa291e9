package budget_test

import (
	"encoding/binary"
	"math"
	"testing"

	"opaline/api"
	"opaline/budget"
)

// written is a budget's text, put together apart from the program.
func written(left uint32, window uint64, locked byte) string {
	b := binary.BigEndian.AppendUint32(nil, left)
	b = binary.BigEndian.AppendUint64(b, window)
	return string(append(b, locked))
}

func TestText(t *testing.T) {
	if s := (budget.Budget{Left: 258, Window: 3, Locked: true}).Text(); s != "\x00\x00\x01\x02\x00\x00\x00\x00\x00\x00\x00\x03\x01" {
		t.Errorf("Text: %q", s)
	}
	for _, left := range []int{0, 1, 2, 255, 256, 1000, 0x01020304, math.MaxInt32 - 1, math.MaxInt32} {
		for _, window := range []uint64{0, 1, 0x0102030405060708, math.MaxUint64} {
			for locked, flag := range map[bool]byte{false: 0, true: 1} {
				b := budget.Budget{Left: left, Window: window, Locked: locked}
				if b.Text() != written(uint32(left), window, flag) {
					t.Errorf("Text of %+v: %q", b, b.Text())
				}
				if got, e := budget.Parse(b.Text()); e != api.OK || got != b {
					t.Errorf("Parse of %+v: %+v, %v", b, got, e)
				}
			}
		}
	}
}

func refused(t *testing.T, what, s string) {
	t.Helper()
	if got, e := budget.Parse(s); e != api.ErrForm || got != (budget.Budget{}) {
		t.Errorf("Parse of %s: %+v, %v", what, got, e)
	}
}

func TestParseWrong(t *testing.T) {
	s := written(5, 6, 0)
	for i := range len(s) {
		refused(t, "a text that ends too soon", s[:i])
	}
	refused(t, "a text with a byte behind", s+"\x00")
	refused(t, "a text twice", s+s)
	for locked := 2; locked < 256; locked++ {
		refused(t, "another byte at the end", written(5, 6, byte(locked)))
	}
	for _, left := range []uint32{1 << 31, 1<<31 + 5, math.MaxUint32 - 1, math.MaxUint32} {
		refused(t, "too many", written(left, 6, 0))
		refused(t, "too many, locked", written(left, 6, 1))
	}
}

// TestTextEnds: what isn't from 0 to 2^31 - 1 isn't written as if it were.
func TestTextEnds(t *testing.T) {
	for left, four := range map[int]uint32{
		1 << 31:            1 << 31,
		math.MaxUint32:     math.MaxUint32,
		math.MaxUint32 + 1: math.MaxUint32,
		1<<32 + 5:          math.MaxUint32,
		math.MaxInt:        math.MaxUint32,
		-1:                 math.MaxUint32,
		-5:                 math.MaxUint32 - 4,
		math.MinInt32:      1 << 31,
		math.MinInt32 - 1:  1 << 31,
		math.MinInt + 5:    1 << 31,
		math.MinInt:        1 << 31,
	} {
		s := (budget.Budget{Left: left, Window: 1}).Text()
		if s != written(four, 1, 0) {
			t.Errorf("Text of %d left: %q", left, s)
		}
		refused(t, "what may not be", s)
	}
}
