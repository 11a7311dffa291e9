package ake

import (
	"opaline/api"
	"opaline/hmac"
	"opaline/sha"
)

const maxCounted = 1<<16 - 1 // bytes that a length of two bytes can tell

// Talk is what was said.
type Talk struct{ Context, Client, KE1, Server, Answer, Nonce, Share string }

// Keys are what both come to.
type Keys struct{ Session, ServerMAC, ClientMAC string }

// Preamble: all that was said.
func (t Talk) Preamble() (string, api.Errno) {
	if max(len(t.Context), len(t.Client), len(t.Server)) > maxCounted {
		return "", api.ErrLong
	}
	asked := sha.Counted(t.Context, t.Client) + t.KE1
	answered := sha.Counted(t.Server) + t.Answer + t.Nonce + t.Share
	return "OPAQUEv1-" + asked + answered, api.OK
}

// Derive: keys of a secret and what was said.
func Derive(secret, preamble string) Keys {
	key, said := hmac.Extract("", secret), sum(preamble)
	hand := hmac.Secret(key, "HandshakeSecret", said)
	server := hmac.Sum(hmac.Secret(hand, "ServerMAC", ""), said)
	// The client's sum is over the server's too: it shows that it was seen.
	client := hmac.Sum(hmac.Secret(hand, "ClientMAC", ""), sum(preamble, server))
	return Keys{Session: hmac.Secret(key, "SessionKey", said), ServerMAC: server, ClientMAC: client}
}

func sum(parts ...string) string {
	out := sha.Sum(parts...)
	return string(out[:])
}
