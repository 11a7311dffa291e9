package envelope

import (
	"opaline/api"
	"opaline/hmac"
	"opaline/oprf"
	"opaline/scalar"
	"opaline/xmd"
)

const maxMask = 255 * api.Hash // bytes that layer 3's Expand can make

// Password: of the function's text.
func Password(oprf string, rounds int) string {
	return hmac.Extract("", oprf, hmac.Stretch(oprf, rounds))
}

// Masking: of a password.
func Masking(password string) string { return expand(password, "MaskingKey", api.Hash) }

// Keys: of a seed.
func Keys(seed string) (scalar.Scalar, api.Bytes, api.Errno) {
	secret, public, e := oprf.Derive(seed, "OPAQUE-DeriveDiffieHellmanKeyPair")
	if e != api.OK {
		return scalar.Scalar{}, api.Bytes{}, e
	}
	return secret, public.Bytes(), api.OK
}

// Mask: a text, hidden, or shown again.
func Mask(masking, nonce, text string) string {
	pad := expand(masking, nonce+"CredentialResponsePad", min(len(text), maxMask))
	return xmd.Xor(text, pad)
}

// expand: nobody here asks for more bytes than there are, so that Expand has no error.
func expand(key, info string, n int) string {
	out, _ := hmac.Expand(key, info, n)
	return out
}
