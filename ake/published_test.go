package ake_test

import (
	"encoding/hex"
	"testing"

	"opaline/ake"
	"opaline/api"
	"opaline/envelope"
	"opaline/scalar"
)

func unhex(t *testing.T, s string) string {
	t.Helper()
	b, err := hex.DecodeString(s)
	if err != nil {
		t.Fatal(err)
	}
	return string(b)
}

func bytesOf(t *testing.T, s string) api.Bytes {
	t.Helper()
	return api.Bytes([]byte(unhex(t, s)))
}

func scalarOf(t *testing.T, s string) scalar.Scalar {
	t.Helper()
	out, e := scalar.Parse(bytesOf(t, s))
	if e != api.OK {
		t.Fatal(e)
	}
	return out
}

// Of RFC 9807, C.1.1, without identities: the keys stand for them.
const (
	context      = "4f50415155452d504f43"
	clientPublic = "76a845464c68a5d2f7e442436bb1424953b17d3e2e289ccbaccafb57ac5c3675"
	serverSecret = "47451a85372f8b3537e249d7b54188091fb18edde78094b43e2ba42b5eb89f0d"
	serverPublic = "b2fe7af9f48cc502d016729d2fe25cdd433f2c4bc904660b2a382c9b79df1a78"
	clientSeed   = "82850a697b42a505f5b68fcdafce8c31f0af2b581f063cf1091933541936304b"
	serverSeed   = "05a4f54206eef1ba2f615bc0aa285cb22f26d1153b5b40a1e85ff80da12f982f"
	clientNonce  = "da7e07376d6d6f034cfa9bb537d11b8c6b4238c334333d1f0aebb380cae6a6cc"
	serverNonce  = "71cd9960ecef2fe0d0f7494986fa3d8b2bb01963537e60efb13981e138e3d4a1"
	clientShare  = "6e29bee50701498605b2c085d7b241ca15ba5c32027dd21ba420b94ce60da326"
	serverShare  = "c4f62198a9d6fa9170c42c3c71f1971b29eb1d5d0bd733e40816c91f7912cc4a"
	blinded      = "c4dedb0ba6ed5d965d6f250fbe554cd45cba5dfcce3ce836e4aee778aa3cd44d"
	answer       = "7e308140890bcde30cbcea28b01ea1ecfbd077cff62c4def8efa075aabcbb471" +
		"38fe59af0df2c79f57b8780278f5ae47355fe1f817119041951c80f612fdfc6d" +
		"d6ec60bcdb26dc455ddf3e718f1020490c192d70dfc7e403981179d8073d1146a4f9aa1ced4e4cd984c657eb3b54ced3848326f70331953d91b02535af44d9fedc80188ca46743c52786e0382f95ad85c08f6afcd1ccfbff95e2bdeb015b166c6b20b92f832cc6df01e0b86a7efd92c1c804ff865781fa93f2f20b446c8371b6"
	sessionKey = "42afde6f5aca0cfa5c163763fbad55e73a41db6b41bc87b8e7b62214a8eedc6731fa3cb857d657ab9b3764b89a84e91ebcb4785166fbb02cedfcbdfda215b96f"
	serverMAC  = "660c48dae03e57aaa38f3d0cffcfc21852ebc8b405d15bd6744945ba1a93438a162b6111699d98a16bb55b7bdddfe0fc5608b23da246e7bd73b47369169c5c90"
	clientMAC  = "4455df4f810ac31a6748835888564b536e6da5d9944dfea9e34defb9575fe5e2661ef61d2ae3929bcf57e53d464113d364365eb7d1a57b629707ca48da18e442"
)

func TestPublished(t *testing.T) {
	eph, share, e := envelope.Keys(unhex(t, serverSeed))
	if e != api.OK || share != bytesOf(t, serverShare) {
		t.Fatalf("the server's share: %x, %v", share, e)
	}
	side := ake.Side{Eph: eph, Own: scalarOf(t, serverSecret), Share: bytesOf(t, clientShare), Other: bytesOf(t, clientPublic)}
	secret, e := side.Server()
	if e != api.OK {
		t.Fatal(e)
	}
	talk := ake.Talk{
		Context: unhex(t, context),
		Client:  unhex(t, clientPublic),
		KE1:     unhex(t, blinded+clientNonce+clientShare),
		Server:  unhex(t, serverPublic),
		Answer:  unhex(t, answer),
		Nonce:   unhex(t, serverNonce),
		Share:   unhex(t, serverShare),
	}
	preamble, e := talk.Preamble()
	if e != api.OK {
		t.Fatal(e)
	}
	got := ake.Derive(secret, preamble)
	want := ake.Keys{Session: unhex(t, sessionKey), ServerMAC: unhex(t, serverMAC), ClientMAC: unhex(t, clientMAC)}
	if got != want {
		t.Errorf("Derive: %x", got)
	}
}

// TestPublishedShare: the client's share is its seed's.
func TestPublishedShare(t *testing.T) {
	if _, share, e := envelope.Keys(unhex(t, clientSeed)); e != api.OK || share != bytesOf(t, clientShare) {
		t.Errorf("the client's share: %x, %v", share, e)
	}
}
