package epoch_test

import (
	"math"
	"math/big"
	"slices"
	"testing"

	"opaline/account"
	"opaline/api"
	"opaline/budget"
	"opaline/client"
	"opaline/epoch"
	"opaline/scalar"
	"opaline/server"
	"opaline/wire"
)

func ok(t *testing.T, what string, e api.Errno) {
	t.Helper()
	if e != api.OK {
		t.Fatalf("%s: %v", what, e)
	}
}

// number is a scalar in the library's words.
func number(a scalar.Scalar) *big.Int {
	b := a.Bytes()
	slices.Reverse(b[:])
	return new(big.Int).SetBytes(b[:])
}

func order() *big.Int {
	l, _ := new(big.Int).SetString("27742317777372353535851937790883648493", 10)
	return l.Add(l, new(big.Int).Lsh(big.NewInt(1), 252))
}

// tokenOf is what leads from one master's key to another one's, by the library.
func tokenOf(t *testing.T, from, to epoch.Master, name string) *big.Int {
	t.Helper()
	a, e := server.Key(from.Seed, name)
	ok(t, "Key", e)
	b, e := server.Key(to.Seed, name)
	ok(t, "Key", e)
	out := new(big.Int).ModInverse(number(b), order())
	return out.Mod(out.Mul(out, number(a)), order())
}

func TestToken(t *testing.T) {
	for i, from := range seeds() {
		for j, to := range seeds() {
			a, b := epoch.Master{Number: uint64(i), Seed: from}, epoch.Master{Number: uint64(j) * 7, Seed: to}
			for _, name := range names() {
				got, e := epoch.Token(a, b, name)
				if e != api.OK || number(got).Cmp(tokenOf(t, a, b, name)) != 0 {
					t.Errorf("Token from %d to %d for %q: %v", i, j, name, e)
				}
				if (got == scalar.Of(1)) != (i == j) {
					t.Errorf("Token from %d to %d for %q: is it 1?", i, j, name)
				}
				was, _ := a.Key(name, scalar.Of(1))
				if is, e := b.Key(name, got); e != api.OK || is != was {
					t.Errorf("Token from %d to %d for %q doesn't lead there: %v", i, j, name, e)
				}
			}
		}
	}
}

func TestTokenWrong(t *testing.T) {
	a, b := epoch.Master{Number: 1, Seed: draw(1)}, epoch.Master{Number: 2, Seed: draw(2)}
	for name, want := range wrongNames() {
		for _, to := range []epoch.Master{a, b, {}} {
			if got, e := epoch.Token(a, to, name); e != want || got != (scalar.Scalar{}) {
				t.Errorf("Token for %d bytes: %v", len(name), e)
			}
		}
	}
}

// master is one of that number, whose seed is its own.
func master(n uint64) epoch.Master { return epoch.Master{Number: n, Seed: draw(int(n % 200))} }

func accountOf(name string, number uint64, delta scalar.Scalar) account.Account {
	return account.Account{
		Name: name, Epoch: number, Delta: delta,
		Budget: budget.Budget{Left: 3, Window: 9, Locked: true},
		Record: wire.Record{Public: text(32), Masking: text(64), Envelope: text(96)},
	}
}

func TestTurn(t *testing.T) {
	for _, n := range []uint64{0, 1, 2, 7, 1<<32 - 1, 1<<63 - 1, 1 << 63, math.MaxUint64 - 1} {
		from, to := master(n), master(n+1)
		for _, name := range names() {
			token, e := epoch.Token(from, to, name)
			ok(t, "Token", e)
			for _, delta := range append(deltas(), scalar.Of(0)) {
				a := accountOf(name, n, delta)
				got, e := epoch.Turn(from, to, a)
				// All else is as it was.
				if e != api.OK || got != accountOf(name, n+1, token.Mul(delta)) {
					t.Errorf("Turn of %q from %d: %+v, %v", name, n, got, e)
				}
				if a != accountOf(name, n, delta) {
					t.Errorf("Turn of %q from %d changed what was handed in", name, n)
				}
			}
		}
	}
}

func notTurned(t *testing.T, from, to epoch.Master, a account.Account, want api.Errno) {
	t.Helper()
	if got, e := epoch.Turn(from, to, a); e != want || got != (account.Account{}) {
		t.Errorf("Turn of %d from %d to %d: %+v, %v, wanted %v", a.Epoch, from.Number, to.Number, got, e, want)
	}
}

func TestTurnWrong(t *testing.T) {
	// Every one of three numbers but those that follow; at their ends, too: behind the last there is none, and 0 isn't it.
	ends := []uint64{0, 1, 2, 3, 1<<63 - 1, 1 << 63, math.MaxUint64 - 1, math.MaxUint64}
	for _, from := range ends {
		for _, to := range ends {
			for _, is := range ends {
				if is == from && from != math.MaxUint64 && to == from+1 {
					continue
				}
				notTurned(t, master(from), master(to), accountOf("alice", is, scalar.Of(1)), api.ErrEpoch)
			}
		}
	}
	for name, want := range wrongNames() {
		notTurned(t, master(1), master(2), accountOf(name, 1, scalar.Of(1)), want)
		// The numbers' error is named ahead of the name's.
		notTurned(t, master(1), master(3), accountOf(name, 1, scalar.Of(1)), api.ErrEpoch)
		notTurned(t, master(1), master(2), accountOf(name, 2, scalar.Of(1)), api.ErrEpoch)
	}
}

// TestTurned: through many masters an account's key is what it was.
func TestTurned(t *testing.T) {
	for _, name := range names() {
		for _, delta := range deltas() {
			a := accountOf(name, 1, delta)
			was, e := master(1).Key(name, delta)
			ok(t, "Key", e)
			for n := uint64(1); n < 8; n++ {
				before := a.Delta
				a, e = epoch.Turn(master(n), master(n+1), a)
				ok(t, "Turn", e)
				if is, e := master(n+1).Key(name, a.Delta); e != api.OK || is != was || a.Epoch != n+1 {
					t.Fatalf("Key of %q by the master %d: %v", name, n+1, e)
				}
				// By what it had before it would be another one.
				if is, _ := master(n+1).Key(name, before); is == was {
					t.Errorf("Key of %q by the master %d hangs on no Delta", name, n+1)
				}
			}
		}
	}
}

// registered is the record of who has a password, by the first master's key, and the key that goes out.
func registered(t *testing.T, s server.Setting, password string) (wire.Record, string) {
	t.Helper()
	key, e := master(1).Key("alice", scalar.Of(1))
	ok(t, "Key", e)
	r, asked, e := client.Register(password, scalar.Of(77))
	ok(t, "Register", e)
	answer, e := server.Register(s, key, asked)
	ok(t, "the server's Register", e)
	record, export, e := r.Finish(client.Setting{Rounds: 2}, answer, draw(3))
	ok(t, "Finish", e)
	return record, export
}

// login: does a password lead to a session, and to the key that went out?
func login(t *testing.T, s server.Setting, key scalar.Scalar, r wire.Record, password, export string) api.Errno {
	t.Helper()
	l, ke1, e := client.Begin(password, scalar.Of(99), draw(4), draw(5))
	ok(t, "Begin", e)
	w, ke2, e := server.Answer(s, key, r, ke1, server.Draws{MaskNonce: draw(6), Nonce: draw(7), Seed: draw(8)})
	ok(t, "Answer", e)
	done, e := l.Finish(client.Setting{Rounds: 2}, ke2)
	if e != api.OK {
		return e
	}
	session, e := w.Finish(done.KE3)
	if session != done.Session || export != done.Export {
		t.Error("the sides have unlike keys")
	}
	return e
}

// TestTurnedLogin: a master turns, and the password is still right; another one isn't.
func TestTurnedLogin(t *testing.T) {
	own, public, e := epoch.Own("root")
	ok(t, "Own", e)
	s := server.Setting{Own: own, Public: public}
	record, export := registered(t, s, "right")
	a := accountOf("alice", 1, scalar.Of(1))
	for n := uint64(1); n < 5; n++ {
		key, e := master(n).Key(a.Name, a.Delta)
		ok(t, "Key", e)
		if e := login(t, s, key, record, "right", export); e != api.OK {
			t.Errorf("the right password, by the master %d: %v", n, e)
		}
		if e := login(t, s, key, record, "wrong", export); e != api.ErrOpen {
			t.Errorf("a wrong password, by the master %d: %v", n, e)
		}
		a, e = epoch.Turn(master(n), master(n+1), a)
		ok(t, "Turn", e)
	}
}
