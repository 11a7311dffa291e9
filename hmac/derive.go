package hmac

import (
	"strings"

	"opaline/api"
)

const (
	maxBytes   = 255 * api.Hash // a block's number is one byte, from 1 on
	prefix     = "OPAQUE-"
	maxCounted = 255 // bytes that one byte counts
)

// Extract: a key of what is known.
func Extract(salt string, parts ...string) string { return Sum(salt, parts...) }

// Expand: so many bytes of a key.
func Expand(prk, info string, n int) (string, api.Errno) {
	if n > maxBytes {
		return "", api.ErrLong
	}
	if n < 0 {
		return "", api.ErrArg
	}
	mac := With(prk)
	block := ""
	var out strings.Builder
	for i := 1; out.Len() < n; i++ {
		block = mac(block, info, oneByte(i))
		out.WriteString(block)
	}
	return out.String()[:n], api.OK
}

// Label: bytes of a secret, by a label.
func Label(secret, label, context string, n int) (string, api.Errno) {
	name := prefix + label
	if len(name) > maxCounted || len(context) > maxCounted {
		return "", api.ErrLong
	}
	return Expand(secret, twoBytes(n)+counted(name)+counted(context), n)
}

// Secret: one of another one, by a label.
func Secret(secret, label, hash string) string {
	// Beside an error Label's text is the empty one already.
	out, _ := Label(secret, label, hash, api.Hash)
	return out
}

func oneByte(n int) string { return string([]byte{byte(n)}) }

func twoBytes(n int) string { return string([]byte{byte(n >> 8), byte(n)}) }

// counted: layer 2's Counted tells a length in two bytes, labels tell it in one.
func counted(s string) string { return oneByte(len(s)) + s }
