package oprf

import (
	"opaline/api"
	"opaline/ristretto"
	"opaline/scalar"
	"opaline/sha"
	"opaline/xmd"
)

const (
	context  = "OPRFV1-\x00-ristretto255-SHA512"
	hashSize = 64  // bytes of which an element, or a scalar, is made
	seedSize = 32  // bytes
	counts   = 256 // keys that are tried, one a byte
)

// Context: of the mode and the group.
func Context() string { return context }

// HashToGroup: an element of an input.
func HashToGroup(input string) (ristretto.Element, api.Errno) {
	s, e := xmd.Expand("HashToGroup-"+context, hashSize, input)
	if e != api.OK {
		return ristretto.Element{}, e
	}
	return ristretto.Map(s)
}

// HashToScalar: a scalar of an input, by a mark.
func HashToScalar(input, dst string) (scalar.Scalar, api.Errno) {
	s, e := xmd.Expand(dst+context, hashSize, input)
	if e != api.OK {
		return scalar.Scalar{}, e
	}
	return scalar.Wide(s)
}

// Derive: a key, and its element.
func Derive(seed, info string) (scalar.Scalar, ristretto.Element, api.Errno) {
	if len(seed) != seedSize {
		return scalar.Scalar{}, ristretto.Element{}, api.ErrForm
	}
	if len(info) > maxInput {
		return scalar.Scalar{}, ristretto.Element{}, api.ErrLong
	}
	t := seed + sha.Counted(info)
	key, e := firstKey(func(count string) (scalar.Scalar, api.Errno) {
		return HashToScalar(t+count, "DeriveKeyPair")
	})
	if e != api.OK {
		return scalar.Scalar{}, ristretto.Element{}, e
	}
	return key, ristretto.Base().Times(key), api.OK
}

// firstKey: the first that isn't 0, of those that counts (one byte each) lead to.
func firstKey(of func(count string) (scalar.Scalar, api.Errno)) (scalar.Scalar, api.Errno) {
	for i := range counts {
		key, e := of(string([]byte{byte(i)}))
		if e != api.OK {
			return scalar.Scalar{}, e
		}
		if !key.Zero() {
			return key, api.OK
		}
	}
	return scalar.Scalar{}, api.ErrZero
}
