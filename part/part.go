// Package part writes and reads the parts that kept texts are put together of. A reader's text that ends too soon ends all behind the door of package must, so that who reads needn't speak of errors.
package part

import (
	"opaline/api"
	"opaline/must"
)

const (
	eight = 8 // bytes of a number
	four  = 4 // bytes of a smaller one
	two   = 2 // bytes of a length
)

// Eight: a number's eight bytes, the highest first.
func Eight(n uint64) string {
	var b [eight]byte
	for i := range b {
		b[eight-1-i] = byte(n >> (8 * i))
	}
	return string(b[:])
}

// Four: a number's four bytes, the highest first.
func Four(n uint32) string { return Eight(uint64(n))[eight-four:] }

// Flag: a byte, 1 of what is so, else 0.
func Flag(so bool) string {
	if so {
		return "\x01"
	}
	return "\x00"
}

// Whole: what a text is, from its first byte to its last one; ErrForm, where it ends too soon, or something stands behind, or the error that ended the reading.
func Whole[T any](t string, read func(r *Reader) T) (T, api.Errno) {
	return Uncut(t, api.ErrForm, read)
}

// Uncut: as Whole, with an error of its own for a text that ends too soon.
func Uncut[T any](t string, short api.Errno, read func(r *Reader) T) (T, api.Errno) {
	return must.Door(func() T {
		r := &Reader{rest: t, short: short}
		is := read(r)
		must.Hold(!r.More(), api.ErrForm)
		return is
	})
}

// Reader is what of a text isn't read yet, and what is wrong with one that ends too soon.
type Reader struct {
	rest  string
	short api.Errno
}

// Read: a text's reader; ErrForm ends all, where that ends too soon.
func Read(t string) *Reader { return &Reader{rest: t, short: api.ErrForm} }

// More: is there any left?
func (r *Reader) More() bool { return r.rest != "" }

// Take: so many bytes, or the end of all, where there are fewer.
func (r *Reader) Take(n int) string {
	must.Hold(n <= len(r.rest), r.short)
	taken := r.rest[:n]
	r.rest = r.rest[n:]
	return taken
}

// Byte: one.
func (r *Reader) Byte() byte { return r.Take(1)[0] }

// Eight: a number of eight bytes.
func (r *Reader) Eight() uint64 { return number(r.Take(eight)) }

// Four: a number of four bytes.
func (r *Reader) Four() uint32 { return uint32(number(r.Take(four))) }

// Flag: a byte that says whether something is so; ErrForm ends all, where it is neither 1 nor 0.
func (r *Reader) Flag() bool {
	b := r.Byte()
	must.Hold(b <= 1, api.ErrForm)
	return b == 1
}

// Counted: a part that stands behind its length.
func (r *Reader) Counted() string { return r.Take(int(number(r.Take(two)))) }

func number(b string) uint64 {
	n := uint64(0)
	for i := range len(b) {
		n = n<<8 | uint64(b[i])
	}
	return n
}
