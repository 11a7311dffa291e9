package frame

import (
	"math"

	"opaline/api"
	"opaline/part"
)

// octet: a number's byte, modulo 256.
func octet(n int) string { return string([]byte{byte(n)}) }

// fits: is a session a byte, and are so many bytes not too many?
func fits(session, size int) api.Errno {
	if session < 0 || session > math.MaxUint8 {
		return api.ErrRange
	}
	if size > api.MaxFrame {
		return api.ErrLong
	}
	return api.OK
}

// read: what bytes are, by the method of its type that takes it from a reader.
func read[T any](s string, take func(*T, *part.Reader)) (T, api.Errno) {
	if len(s) > api.MaxFrame {
		var none T
		return none, api.ErrLong
	}
	return part.Uncut(s, api.ErrShort, func(r *part.Reader) T {
		var is T
		take(&is, r)
		return is
	})
}
