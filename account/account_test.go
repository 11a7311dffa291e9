package account_test

import (
	"encoding/binary"
	"encoding/hex"
	"math"
	"slices"
	"strings"
	"testing"

	"opaline/account"
	"opaline/api"
	"opaline/budget"
	"opaline/scalar"
	"opaline/wire"
)

// order is the group's, its bytes in base sixteen.
const order = "edd3f55c1a631258d69cf7a2def9de1400000000000000000000000000000010"

// text is n bytes, of which neighbours are unlike.
func text(n int) string {
	out := make([]byte, n)
	for i := range out {
		out[i] = byte(i*7 + i>>8 + 3)
	}
	return string(out)
}

func unhex(s string) string {
	b, err := hex.DecodeString(s)
	if err != nil {
		panic(err)
	}
	return string(b)
}

// raw is an account's text, part by part, put together apart from the program; what may not be, too.
type raw struct {
	count  int // of the name's bytes
	name   string
	epoch  uint64
	delta  string
	left   uint32
	window uint64
	locked byte
	record string
}

func (r raw) text() string {
	b := binary.BigEndian.AppendUint16(nil, uint16(r.count))
	b = append(b, r.name...)
	b = binary.BigEndian.AppendUint64(b, r.epoch)
	b = append(b, r.delta...)
	b = binary.BigEndian.AppendUint32(b, r.left)
	b = binary.BigEndian.AppendUint64(b, r.window)
	b = append(b, r.locked)
	return string(append(b, r.record...))
}

// rawOf is one that may be.
func rawOf(name string) raw {
	return raw{
		count: len(name), name: name, epoch: 0x0102030405060708, delta: "\x05" + strings.Repeat("\x00", 31),
		left: 9, window: 0x1112131415161718, record: text(192),
	}
}

// accountOf is the account that rawOf tells.
func accountOf(name string) account.Account {
	r := text(192)
	return account.Account{
		Name: name, Epoch: 0x0102030405060708, Delta: scalar.Of(5),
		Budget: budget.Budget{Left: 9, Window: 0x1112131415161718},
		Record: wire.Record{Public: r[:32], Masking: r[32:96], Envelope: r[96:]},
	}
}

// names are names that may be.
func names() []string {
	return []string{
		"alice", "a", "a.", "a.a", ".", "\x00", "\x00\x00", "\xff", "é", " ", "Alice", "a\x00", "m", "s",
		text(63), text(64), strings.Repeat("\xff", 64), strings.Repeat("é", 32),
	}
}

// wrongNames are those that no account may have.
func wrongNames() map[string]api.Errno {
	return map[string]api.Errno{
		"":                      api.ErrShort,
		text(65):                api.ErrLong,
		text(66):                api.ErrLong,
		text(78):                api.ErrLong,
		text(64 + 256):          api.ErrLong,
		text(1 << 16):           api.ErrLong,
		text(1<<16 + 5):         api.ErrLong,
		strings.Repeat("é", 33): api.ErrLong,
	}
}

func TestNamed(t *testing.T) {
	for _, name := range names() {
		if e := account.Named(name); e != api.OK {
			t.Errorf("Named of %q: %v", name, e)
		}
	}
	for name, want := range wrongNames() {
		if e := account.Named(name); e != want {
			t.Errorf("Named of %d bytes: %v", len(name), e)
		}
	}
}

func TestKey(t *testing.T) {
	if account.Key("alice") != "a.alice" {
		t.Errorf("Key of alice: %q", account.Key("alice"))
	}
	for _, name := range names() {
		key := account.Key(name)
		if key != "a."+name {
			t.Errorf("Key of %q: %q", name, key)
		}
		if got, is := account.Name(key); !is || got != name {
			t.Errorf("Name of %q: %q, %v", key, got, is)
		}
	}
	// Whatever name is handed in, it has a key.
	for name := range wrongNames() {
		if account.Key(name) != "a."+name {
			t.Errorf("Key of %d bytes", len(name))
		}
	}
}

func TestNameWrong(t *testing.T) {
	keys := []string{"", "a", ".", "m", "s", "alice", "A.alice", "b.alice", ".a.alice", " a.alice", "aa.alice", "a\x00alice", "a-alice", "a/alice", "\x00a.alice"}
	// What may be no account's name makes no account's key.
	for name := range wrongNames() {
		keys = append(keys, "a."+name)
	}
	for _, key := range keys {
		if got, is := account.Name(key); is || got != "" {
			t.Errorf("Name of %.80q: %q, %v", key, got, is)
		}
	}
}

// read: a text is that account's, and the account's is that text.
func read(t *testing.T, what string, a account.Account, want string) {
	t.Helper()
	if got, e := a.Text(); e != api.OK || got != want {
		t.Errorf("Text of %s: %x, %v", what, got, e)
	}
	if got, e := account.Parse(want); e != api.OK || got != a {
		t.Errorf("Parse of %s: %+v, %v", what, got, e)
	}
}

func TestText(t *testing.T) {
	for _, name := range names() {
		read(t, name, accountOf(name), rawOf(name).text())
	}
	for _, n := range []uint64{0, 1, 255, 256, 1 << 63, math.MaxUint64} {
		a, r := accountOf("alice"), rawOf("alice")
		a.Epoch, r.epoch = n, n
		read(t, "another epoch", a, r.text())
		a.Budget.Window, r.window = n, n
		read(t, "another window", a, r.text())
	}
	for _, left := range []uint32{0, 1, 255, 256, 1000, 1001, 0x01020304, math.MaxInt32 - 1, math.MaxInt32} {
		a, r := accountOf("alice"), rawOf("alice")
		a.Budget.Left, r.left = int(left), left
		read(t, "another number of guesses", a, r.text())
		a.Budget.Locked, r.locked = true, 1
		read(t, "another number of guesses, locked", a, r.text())
	}
	for delta, n := range map[string]scalar.Scalar{
		"01" + strings.Repeat("00", 31):                                      scalar.Of(1),
		"ffffffffffffffff" + strings.Repeat("00", 24):                        scalar.Of(math.MaxUint64),
		"ec" + order[2:]:                                                     scalar.Of(1).Neg(),
		"f7e97a2e8d31092c6bce7b51ef7c6f0a" + strings.Repeat("00", 15) + "08": scalar.Of(2).Invert(),
	} {
		a, r := accountOf("alice"), rawOf("alice")
		a.Delta, r.delta = n, unhex(delta)
		read(t, "another Delta", a, r.text())
	}
	// A record's bytes may be any: of elements nothing is said here.
	for _, b := range []string{"\x00", "\x01", "\xff"} {
		a, r := accountOf("alice"), rawOf("alice")
		a.Record = wire.Record{Public: strings.Repeat(b, 32), Masking: strings.Repeat(b, 64), Envelope: strings.Repeat(b, 96)}
		r.record = strings.Repeat(b, 192)
		read(t, "another record", a, r.text())
	}
}

// wrong: an account has that error, and nothing else.
func wrong(t *testing.T, what string, a account.Account, want api.Errno) {
	t.Helper()
	if got, e := a.Text(); e != want || got != "" {
		t.Errorf("Text of %s: %d bytes, %v, wanted %v", what, len(got), e, want)
	}
	if got, e := a.Change(); e != want || got.Key != "" || got.Value != "" || got.Gone {
		t.Errorf("Change of %s: %.80q, %v, wanted %v", what, got.Key, e, want)
	}
}

// cut are records of which a part has another length.
func cut() []wire.Record {
	var l []wire.Record
	for _, by := range []int{-1, 1} {
		for i := range 3 {
			n := []int{32, 64, 96}
			n[i] += by
			l = append(l, wire.Record{Public: text(n[0]), Masking: text(n[1]), Envelope: text(n[2])})
		}
	}
	// All parts together have as many bytes as they should.
	return append(l, wire.Record{}, wire.Record{Public: text(33), Masking: text(63), Envelope: text(96)}, wire.Record{Envelope: text(192)})
}

func TestTextWrong(t *testing.T) {
	for name, want := range wrongNames() {
		wrong(t, "a wrong name", accountOf(name), want)
	}
	a := accountOf("alice")
	a.Delta = scalar.Of(0)
	wrong(t, "a Delta of 0", a, api.ErrZero)
	for _, left := range []int{-1, -1000, math.MinInt32, math.MinInt, 1 << 31, math.MaxUint32, 1 << 32, 1<<32 + 5, math.MaxInt} {
		a := accountOf("alice")
		a.Budget.Left = left
		wrong(t, "another number of guesses", a, api.ErrRange)
	}
	for _, r := range cut() {
		a := accountOf("alice")
		a.Record = r
		wrong(t, "a record of other parts", a, api.ErrForm)
	}
	wrong(t, "the zero account", account.Account{}, api.ErrShort)
}

// TestTextOrder: where several errors apply, the one that is named first is answered.
func TestTextOrder(t *testing.T) {
	all := []struct {
		make func(a *account.Account)
		want api.Errno
	}{
		{func(a *account.Account) { a.Name = "" }, api.ErrShort},
		{func(a *account.Account) { a.Name = text(65) }, api.ErrLong},
		{func(a *account.Account) { a.Delta = scalar.Scalar{} }, api.ErrZero},
		{func(a *account.Account) { a.Budget.Left = -1 }, api.ErrRange},
		{func(a *account.Account) { a.Record.Masking = "" }, api.ErrForm},
	}
	for i, first := range all {
		for _, other := range all[i:] {
			a := accountOf("alice")
			other.make(&a)
			first.make(&a)
			wrong(t, "two wrong parts", a, first.want)
		}
		a := accountOf("alice")
		for _, w := range slices.Backward(all[i:]) {
			w.make(&a)
		}
		wrong(t, "many wrong parts", a, first.want)
	}
}

func refused(t *testing.T, what, s string) {
	t.Helper()
	if got, e := account.Parse(s); e != api.ErrForm || got != (account.Account{}) {
		t.Errorf("Parse of %s: %+v, %v", what, got, e)
	}
}

func TestParseCut(t *testing.T) {
	for _, name := range []string{"a", "alice", text(64)} {
		s := rawOf(name).text()
		if len(s) != 2+len(name)+8+32+13+192 {
			t.Fatalf("%d bytes", len(s))
		}
		for i := range len(s) {
			refused(t, "a text that ends too soon", s[:i])
			refused(t, "a text that begins too late", s[i+1:])
		}
		refused(t, "a text with a byte behind", s+"\x00")
		refused(t, "a text with an x behind", s+"x")
		refused(t, "a text with a byte ahead", "\x00"+s)
		refused(t, "a text twice", s+s)
	}
}

func TestParseWrong(t *testing.T) {
	for name := range wrongNames() {
		r := rawOf(name)
		refused(t, "a wrong name", r.text())
	}
	for _, count := range []int{0, 4, 6, 64, 300, 65535} {
		r := rawOf("alice")
		r.count = count
		refused(t, "another length of the name", r.text())
	}
	for name, delta := range map[string]string{
		"0":            strings.Repeat("00", 32),
		"the order":    order,
		"one more":     "ee" + order[2:],
		"a high bit":   "05" + strings.Repeat("00", 30) + "80",
		"all bits":     strings.Repeat("ff", 32),
		"0, and 2^252": strings.Repeat("00", 31) + "20",
	} {
		r := rawOf("alice")
		r.delta = unhex(delta)
		refused(t, "a Delta of "+name, r.text())
	}
	for _, left := range []uint32{1 << 31, 1<<31 + 5, math.MaxUint32} {
		r := rawOf("alice")
		r.left = left
		refused(t, "too many guesses", r.text())
	}
	for locked := 2; locked < 256; locked++ {
		r := rawOf("alice")
		r.locked = byte(locked)
		refused(t, "neither locked nor not", r.text())
	}
	for _, n := range []int{0, 1, 191, 193, 384} {
		r := rawOf("alice")
		r.record = text(n)
		refused(t, "a record of another length", r.text())
	}
}

// TestParseTurned: what is read of a text with another byte is another account, and would be written so; where that isn't, it is refused.
func TestParseTurned(t *testing.T) {
	for _, name := range []string{"a", "alice", text(64)} {
		s := rawOf(name).text()
		for i := range len(s) {
			for _, by := range []byte{1, 2, 0x10, 0x80, 0xff} {
				b := []byte(s)
				b[i] ^= by
				got, e := account.Parse(string(b))
				if e != api.OK {
					refused(t, "a turned text", string(b))
					continue
				}
				if again, e := got.Text(); e != api.OK || again != string(b) || got == accountOf(name) {
					t.Errorf("byte %d of %q is read as %+v", i, name, got)
				}
			}
		}
	}
}
