package server_test

import (
	"testing"

	"opaline/api"
	"opaline/server"
	"opaline/wire"
)

// What RFC 9807, C.1.1 and C.1.2 have in common.
const (
	context       = "OPAQUE-POC"
	oprfSeed      = "f433d0227b0b9dd54f7c4422b600e764e47fb503f1f9a0f0a47c6606b054a7fdc65347f1a08f277e22358bbabe26f823fca82c7848e9a75661f4ec5d5c1989ef"
	credential    = "31323334"
	oprfKey       = "5d4c6a8b7c7138182afb4345d1fae6a9f18a1744afbcc3854f8f5a2b4b4c6d05"
	serverSecret  = "47451a85372f8b3537e249d7b54188091fb18edde78094b43e2ba42b5eb89f0d"
	serverPublic  = "b2fe7af9f48cc502d016729d2fe25cdd433f2c4bc904660b2a382c9b79df1a78"
	serverSeed    = "05a4f54206eef1ba2f615bc0aa285cb22f26d1153b5b40a1e85ff80da12f982f"
	serverNonce   = "71cd9960ecef2fe0d0f7494986fa3d8b2bb01963537e60efb13981e138e3d4a1"
	serverShare   = "c4f62198a9d6fa9170c42c3c71f1971b29eb1d5d0bd733e40816c91f7912cc4a"
	maskNonce     = "38fe59af0df2c79f57b8780278f5ae47355fe1f817119041951c80f612fdfc6d"
	envelopeNonce = "ac13171b2f17bc2c74997f0fce1e1f35bec6b91fe2e12dbd323d23ba7a38dfec"
	request       = "5059ff249eb1551b7ce4991f3336205bde44a105a032e747d21bf382e75f7a71"
	response      = "7408a268083e03abc7097fc05b587834539065e86fb0c7b6342fcf5e01e5b019" + serverPublic
	uploaded      = "76a845464c68a5d2f7e442436bb1424953b17d3e2e289ccbaccafb57ac5c36751ac5844383c7708077dea41cbefe2fa15724f449e535dd7dd562e66f5ecfb95864eadddec9db5874959905117dad40a4524111849799281fefe3c51fa82785c5" + envelopeNonce
	ke1           = "c4dedb0ba6ed5d965d6f250fbe554cd45cba5dfcce3ce836e4aee778aa3cd44dda7e07376d6d6f034cfa9bb537d11b8c6b4238c334333d1f0aebb380cae6a6cc6e29bee50701498605b2c085d7b241ca15ba5c32027dd21ba420b94ce60da326"
	ke2First      = "7e308140890bcde30cbcea28b01ea1ecfbd077cff62c4def8efa075aabcbb471" + maskNonce + "d6ec60bcdb26dc455ddf3e718f1020490c192d70dfc7e403981179d8073d1146a4f9aa1ced4e4cd984c657eb3b54ced3848326f70331953d91b02535af44d9fe"
)

// vectors are what differs: the identities, and all that hangs on them.
var vectors = []struct {
	name, server, client string
	sum, masked, mac     string
	ke3, session         string
}{
	{
		name:    "C.1.1",
		sum:     "634b0f5b96109c198a8027da51854c35bee90d1e1c781806d07d49b76de6a28b8d9e9b6c93b9f8b64d16dddd9c5bfb5fea48ee8fd2f75012a8b308605cdd8ba5",
		masked:  "dc80188ca46743c52786e0382f95ad85c08f6afcd1ccfbff95e2bdeb015b166c6b20b92f832cc6df01e0b86a7efd92c1c804ff865781fa93f2f20b446c8371b6",
		mac:     "660c48dae03e57aaa38f3d0cffcfc21852ebc8b405d15bd6744945ba1a93438a162b6111699d98a16bb55b7bdddfe0fc5608b23da246e7bd73b47369169c5c90",
		ke3:     "4455df4f810ac31a6748835888564b536e6da5d9944dfea9e34defb9575fe5e2661ef61d2ae3929bcf57e53d464113d364365eb7d1a57b629707ca48da18e442",
		session: "42afde6f5aca0cfa5c163763fbad55e73a41db6b41bc87b8e7b62214a8eedc6731fa3cb857d657ab9b3764b89a84e91ebcb4785166fbb02cedfcbdfda215b96f",
	},
	{
		name:    "C.1.2",
		server:  "bob",
		client:  "alice",
		sum:     "1ac902dc5589e9a5f0de56ad685ea8486210ef41449cd4d8712828913c5d2b680b2b3af4a26c765cff329bfb66d38ecf1d6cfa9e7a73c222c6efe0d9520f7d7c",
		masked:  "a502150b67fe36795dd8914f164e49f81c7688a38928372134b7dccd50e09f8fed9518b7b2f94835b3c4fe4c8475e7513f20eb97ff0568a39caee3fd6251876f",
		mac:     "292371e7809a9031743e943fb3b56f51de903552fc91fba4e7419029951c3970b2e2f0a9dea218d22e9e4e0000855bb6421aa3610d6fc0f4033a6517030d4341",
		ke3:     "7a026de1d6126905736c3f6d92463a08d209833eb793e46d0f7f15b3e0f62c7643763c02bbc6b8d3d15b63250cae98171e9260f1ffa789750f534ac11a0176d5",
		session: "ae7951123ab5befc27e62e63f52cf472d6236cb386c968cc47b7e34f866aa4bc7638356a73cfce92becf39d6a7d32a1861f12130e824241fe6cab34fbd471a57",
	},
}

func TestPublishedKey(t *testing.T) {
	if got, e := server.Key(unhex(t, oprfSeed), unhex(t, credential)); e != api.OK || got != scalarOf(t, oprfKey) {
		t.Errorf("Key: %v", e)
	}
}

func TestPublishedRegistration(t *testing.T) {
	s := server.Setting{Context: context, Own: scalarOf(t, serverSecret), Public: bytesOf(t, serverPublic)}
	m, e := wire.ParseRequest(unhex(t, request))
	if e != api.OK {
		t.Fatal(e)
	}
	got, e := server.Register(s, scalarOf(t, oprfKey), m)
	if b, f := got.Bytes(); e != api.OK || f != api.OK || b != unhex(t, response) {
		t.Errorf("Register: %x, %v, %v", b, e, f)
	}
}

func TestPublishedLogin(t *testing.T) {
	for _, v := range vectors {
		s := server.Setting{Context: context, Server: v.server, Client: v.client, Own: scalarOf(t, serverSecret), Public: bytesOf(t, serverPublic)}
		record, e := wire.ParseRecord(unhex(t, uploaded+v.sum))
		m, f := wire.ParseKE1(unhex(t, ke1))
		if e != api.OK || f != api.OK {
			t.Fatal(e, f)
		}
		d := server.Draws{MaskNonce: unhex(t, maskNonce), Nonce: unhex(t, serverNonce), Seed: unhex(t, serverSeed)}
		w, out, e := server.Answer(s, scalarOf(t, oprfKey), record, m, d)
		want := unhex(t, ke2First+v.masked+serverNonce+serverShare+v.mac)
		if b, f := out.Bytes(); e != api.OK || f != api.OK || b != want {
			t.Errorf("%s: Answer: %x, %v, %v", v.name, b, e, f)
		}
		if w != (server.Waiting{Session: unhex(t, v.session), ClientMAC: unhex(t, v.ke3)}) {
			t.Errorf("%s: Answer: what waits is %x", v.name, w)
		}
		if got, e := w.Finish(wire.KE3{MAC: unhex(t, v.ke3)}); e != api.OK || got != unhex(t, v.session) {
			t.Errorf("%s: Finish: %x, %v", v.name, got, e)
		}
	}
}
