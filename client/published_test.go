package client_test

import (
	"encoding/hex"
	"testing"

	"opaline/api"
	"opaline/client"
	"opaline/scalar"
	"opaline/wire"
)

func unhex(t *testing.T, s string) string {
	t.Helper()
	b, err := hex.DecodeString(s)
	if err != nil {
		t.Fatal(err)
	}
	return string(b)
}

func scalarOf(t *testing.T, s string) scalar.Scalar {
	t.Helper()
	out, e := scalar.Parse(api.Bytes([]byte(unhex(t, s))))
	if e != api.OK {
		t.Fatal(e)
	}
	return out
}

// What RFC 9807, C.1.1 and C.1.2 have in common; there passwords aren't stretched.
const (
	context       = "OPAQUE-POC"
	password      = "436f7272656374486f72736542617474657279537461706c65"
	blindFirst    = "76cfbfe758db884bebb33582331ba9f159720ca8784a2a070a265d9c2d6abe01"
	blindLogin    = "6ecc102d2e7a7cf49617aad7bbe188556792d4acd60a1a8a8d2b65d4b0790308"
	envelopeNonce = "ac13171b2f17bc2c74997f0fce1e1f35bec6b91fe2e12dbd323d23ba7a38dfec"
	clientNonce   = "da7e07376d6d6f034cfa9bb537d11b8c6b4238c334333d1f0aebb380cae6a6cc"
	clientSeed    = "82850a697b42a505f5b68fcdafce8c31f0af2b581f063cf1091933541936304b"
	request       = "5059ff249eb1551b7ce4991f3336205bde44a105a032e747d21bf382e75f7a71"
	response      = "7408a268083e03abc7097fc05b587834539065e86fb0c7b6342fcf5e01e5b019b2fe7af9f48cc502d016729d2fe25cdd433f2c4bc904660b2a382c9b79df1a78"
	uploaded      = "76a845464c68a5d2f7e442436bb1424953b17d3e2e289ccbaccafb57ac5c36751ac5844383c7708077dea41cbefe2fa15724f449e535dd7dd562e66f5ecfb95864eadddec9db5874959905117dad40a4524111849799281fefe3c51fa82785c5" + envelopeNonce
	ke1           = "c4dedb0ba6ed5d965d6f250fbe554cd45cba5dfcce3ce836e4aee778aa3cd44d" + clientNonce + "6e29bee50701498605b2c085d7b241ca15ba5c32027dd21ba420b94ce60da326"
	ke2First      = "7e308140890bcde30cbcea28b01ea1ecfbd077cff62c4def8efa075aabcbb47138fe59af0df2c79f57b8780278f5ae47355fe1f817119041951c80f612fdfc6dd6ec60bcdb26dc455ddf3e718f1020490c192d70dfc7e403981179d8073d1146a4f9aa1ced4e4cd984c657eb3b54ced3848326f70331953d91b02535af44d9fe"
	ke2Server     = "71cd9960ecef2fe0d0f7494986fa3d8b2bb01963537e60efb13981e138e3d4a1c4f62198a9d6fa9170c42c3c71f1971b29eb1d5d0bd733e40816c91f7912cc4a"
	exported      = "1ef15b4fa99e8a852412450ab78713aad30d21fa6966c9b8c9fb3262a970dc62950d4dd4ed62598229b1b72794fc0335199d9f7fcc6eaedde92cc04870e63f16"
)

// vectors are what differs: the identities, and all that hangs on them.
var vectors = []struct {
	name, server, client string
	sum, masked, mac     string
	ke3, session         string
}{
	{
		name:    "C.1.1",
		sum:     "634b0f5b96109c198a8027da51854c35bee90d1e1c781806d07d49b76de6a28b8d9e9b6c93b9f8b64d16dddd9c5bfb5fea48ee8fd2f75012a8b308605cdd8ba5",
		masked:  "dc80188ca46743c52786e0382f95ad85c08f6afcd1ccfbff95e2bdeb015b166c6b20b92f832cc6df01e0b86a7efd92c1c804ff865781fa93f2f20b446c8371b6",
		mac:     "660c48dae03e57aaa38f3d0cffcfc21852ebc8b405d15bd6744945ba1a93438a162b6111699d98a16bb55b7bdddfe0fc5608b23da246e7bd73b47369169c5c90",
		ke3:     "4455df4f810ac31a6748835888564b536e6da5d9944dfea9e34defb9575fe5e2661ef61d2ae3929bcf57e53d464113d364365eb7d1a57b629707ca48da18e442",
		session: "42afde6f5aca0cfa5c163763fbad55e73a41db6b41bc87b8e7b62214a8eedc6731fa3cb857d657ab9b3764b89a84e91ebcb4785166fbb02cedfcbdfda215b96f",
	},
	{
		name:    "C.1.2",
		server:  "bob",
		client:  "alice",
		sum:     "1ac902dc5589e9a5f0de56ad685ea8486210ef41449cd4d8712828913c5d2b680b2b3af4a26c765cff329bfb66d38ecf1d6cfa9e7a73c222c6efe0d9520f7d7c",
		masked:  "a502150b67fe36795dd8914f164e49f81c7688a38928372134b7dccd50e09f8fed9518b7b2f94835b3c4fe4c8475e7513f20eb97ff0568a39caee3fd6251876f",
		mac:     "292371e7809a9031743e943fb3b56f51de903552fc91fba4e7419029951c3970b2e2f0a9dea218d22e9e4e0000855bb6421aa3610d6fc0f4033a6517030d4341",
		ke3:     "7a026de1d6126905736c3f6d92463a08d209833eb793e46d0f7f15b3e0f62c7643763c02bbc6b8d3d15b63250cae98171e9260f1ffa789750f534ac11a0176d5",
		session: "ae7951123ab5befc27e62e63f52cf472d6236cb386c968cc47b7e34f866aa4bc7638356a73cfce92becf39d6a7d32a1861f12130e824241fe6cab34fbd471a57",
	},
}

func TestPublishedRegistration(t *testing.T) {
	for _, v := range vectors {
		r, m, e := client.Register(unhex(t, password), scalarOf(t, blindFirst))
		if e != api.OK || m.Blinded != unhex(t, request) {
			t.Errorf("%s: Register: %x, %v", v.name, m.Blinded, e)
		}
		answer, e := wire.ParseResponse(unhex(t, response))
		if e != api.OK {
			t.Fatal(e)
		}
		s := client.Setting{Context: context, Server: v.server, Client: v.client}
		record, export, e := r.Finish(s, answer, unhex(t, envelopeNonce))
		upload, f := record.Bytes()
		if e != api.OK || f != api.OK || upload != unhex(t, uploaded+v.sum) || export != unhex(t, exported) {
			t.Errorf("%s: Finish: %x, %x, %v, %v", v.name, upload, export, e, f)
		}
	}
}

func TestPublishedLogin(t *testing.T) {
	for _, v := range vectors {
		l, m, e := client.Begin(unhex(t, password), scalarOf(t, blindLogin), unhex(t, clientNonce), unhex(t, clientSeed))
		first, f := m.Bytes()
		if e != api.OK || f != api.OK || first != unhex(t, ke1) {
			t.Errorf("%s: Begin: %x, %v, %v", v.name, first, e, f)
		}
		answer, e := wire.ParseKE2(unhex(t, ke2First+v.masked+ke2Server+v.mac))
		if e != api.OK {
			t.Fatal(e)
		}
		s := client.Setting{Context: context, Server: v.server, Client: v.client}
		done, e := l.Finish(s, answer)
		want := client.Done{KE3: wire.KE3{MAC: unhex(t, v.ke3)}, Session: unhex(t, v.session), Export: unhex(t, exported)}
		if e != api.OK || done != want {
			t.Errorf("%s: Finish: %x, %v", v.name, done, e)
		}
	}
}
