package account_test

import (
	"maps"
	"math/rand"
	"slices"
	"strings"
	"testing"

	"opaline/account"
	"opaline/api"
	"opaline/budget"
	"opaline/disk"
	"opaline/scalar"
	"opaline/store"
)

func ok(t *testing.T, what string, e api.Errno) {
	t.Helper()
	if e != api.OK {
		t.Fatalf("%s: %v", what, e)
	}
}

// opened is a disk's store.
func opened(t *testing.T, d *disk.Disk) *store.Store {
	t.Helper()
	s, e := store.Open(d)
	ok(t, "Open", e)
	return s
}

// storeOf is a new store with these changes.
func storeOf(t *testing.T, l ...store.Change) *store.Store {
	t.Helper()
	d, e := disk.New(256)
	ok(t, "New", e)
	s := opened(t, d)
	ok(t, "Do", s.Do(l...))
	return s
}

// put is what keeps rawOf's account, put together apart from the program.
func put(name string) store.Change { return store.Put("a."+name, rawOf(name).text()) }

func TestChange(t *testing.T) {
	for _, name := range names() {
		if got, e := accountOf(name).Change(); e != api.OK || got != put(name) {
			t.Errorf("Change of %q: %+v, %v", name, got, e)
		}
	}
}

func TestLoad(t *testing.T) {
	var l []store.Change
	for _, name := range names() {
		l = append(l, put(name))
	}
	s := storeOf(t, l...)
	for _, name := range names() {
		if got, e := account.Load(s, name); e != api.OK || got != accountOf(name) {
			t.Errorf("Load of %q: %+v, %v", name, got, e)
		}
	}
}

// notLoaded: a name has that error, and no account beside it.
func notLoaded(t *testing.T, s *store.Store, name string, want api.Errno) {
	t.Helper()
	if got, e := account.Load(s, name); e != want || got != (account.Account{}) {
		t.Errorf("Load of %.80q: %+v, %v, wanted %v", name, got, e, want)
	}
}

func TestLoadWrong(t *testing.T) {
	s := storeOf(t, put("alice"), store.Put("bob", rawOf("bob").text()), store.Put("b.bob", rawOf("bob").text()))
	for _, name := range []string{"bob", "alic", "alice\x00", "Alice", "a.alice", "a", ".", "b.bob"} {
		notLoaded(t, s, name, api.ErrNone)
	}
	ok(t, "Do", s.Do(store.Drop("a.alice")))
	notLoaded(t, s, "alice", api.ErrNone)
	// That it is no name is told even where something stands by its key.
	long := text(65)
	s = storeOf(t, store.Put("a.", rawOf("").text()), store.Put("a."+long, rawOf(long).text()))
	for name, want := range wrongNames() {
		notLoaded(t, s, name, want)
		notLoaded(t, nil, name, want)
	}
	// No store has no keys.
	notLoaded(t, nil, "alice", api.ErrNone)
}

// broken are changes by which what stands by the key of alice isn't alice's account.
func broken() map[string]store.Change {
	fine := rawOf("alice").text()
	zero := rawOf("alice")
	zero.delta = strings.Repeat("\x00", 32)
	many := rawOf("alice")
	many.left = 1 << 31
	return map[string]store.Change{
		"nothing":              store.Put("a.alice", ""),
		"a byte too few":       store.Put("a.alice", fine[:len(fine)-1]),
		"a byte too many":      store.Put("a.alice", fine+"\x00"),
		"a Delta of 0":         store.Put("a.alice", zero.text()),
		"too many guesses":     store.Put("a.alice", many.text()),
		"bob's":                store.Put("a.alice", rawOf("bob").text()),
		"another name's":       store.Put("a.alice", rawOf("alicf").text()),
		"a front's":            store.Put("a.alice", rawOf("alic").text()),
		"a longer one's":       store.Put("a.alice", rawOf("alice\x00").text()),
		"a name's that is key": store.Put("a.alice", rawOf("a.alice").text()),
		"another case's":       store.Put("a.alice", rawOf("Alice").text()),
	}
}

func TestBroken(t *testing.T) {
	for what, c := range broken() {
		s := storeOf(t, put("aaron"), c, put("zoe"))
		notLoaded(t, s, "alice", api.ErrBroken)
		if l, e := account.All(s); e != api.ErrBroken || len(l) != 0 {
			t.Errorf("All with %s: %d, %v", what, len(l), e)
		}
		// The others can be loaded.
		for _, name := range []string{"aaron", "zoe"} {
			if got, e := account.Load(s, name); e != api.OK || got != accountOf(name) {
				t.Errorf("Load of %q with %s: %v", name, what, e)
			}
		}
	}
}

// TestAllBrokenKey: what stands by a key that begins as accounts' do, but has no name behind, is no account.
func TestAllBrokenKey(t *testing.T) {
	for _, name := range []string{"", text(65), text(78)} {
		for _, value := range []string{"", rawOf(name).text(), rawOf("alice").text()} {
			s := storeOf(t, put("alice"), store.Put("a."+name, value))
			if l, e := account.All(s); e != api.ErrBroken || len(l) != 0 {
				t.Errorf("All with a key of %d bytes: %d, %v", 2+len(name), len(l), e)
			}
		}
	}
}

// all: a store has just these accounts, in this order.
func all(t *testing.T, s *store.Store, want []account.Account) {
	t.Helper()
	if got, e := account.All(s); e != api.OK || !slices.Equal(got, want) {
		t.Fatalf("All: %d, wanted %d, %v", len(got), len(want), e)
	}
}

func TestAll(t *testing.T) {
	all(t, nil, nil)
	all(t, storeOf(t), nil)
	// What others keep is left out.
	others := []store.Change{
		store.Put("m", "x"), store.Put("s", "x"), store.Put("a", "x"), store.Put("a-", "x"), store.Put("a/", "x"),
		store.Put("A.alice", "x"), store.Put("aa.alice", "x"), store.Put("b.bob", rawOf("bob").text()), store.Put("\x00a.b", "x"),
	}
	all(t, storeOf(t, others...), nil)
	l := others
	var want []account.Account
	for _, name := range names() {
		l = append(l, put(name))
	}
	for _, name := range slices.Sorted(slices.Values(names())) {
		want = append(want, accountOf(name))
	}
	all(t, storeOf(t, l...), want)
	slices.Reverse(l)
	all(t, storeOf(t, l...), want)
}

// TestAllAgain: each list is its own memory, and the store isn't changed by who changes one.
func TestAllAgain(t *testing.T) {
	s := storeOf(t, put("alice"), put("bob"))
	l, _ := account.All(s)
	l[0], l[1] = account.Account{}, account.Account{}
	all(t, s, []account.Account{accountOf("alice"), accountOf("bob")})
}

// chanced is an account by chance.
func chanced(r *rand.Rand) account.Account {
	a := accountOf(string(rune('a'+r.Intn(5))) + text(r.Intn(64)))
	a.Epoch = r.Uint64()
	a.Delta = scalar.Of(r.Uint64()).Mul(scalar.Of(r.Uint64())).Add(scalar.Of(1))
	a.Budget = budget.Budget{Left: int(r.Int31()), Window: r.Uint64(), Locked: r.Intn(2) == 1}
	a.Record.Masking = text(64 + r.Intn(300))[:64]
	return a
}

// TestKept: accounts are kept, changed and dropped; opened again, the disk has what it was told last.
func TestKept(t *testing.T) {
	r := rand.New(rand.NewSource(21))
	d, e := disk.New(200)
	ok(t, "New", e)
	s := opened(t, d)
	is := map[string]account.Account{}
	for range 150 {
		a := chanced(r)
		if _, there := is[a.Name]; there && r.Intn(2) == 0 || len(is) > 20 {
			ok(t, "Do", s.Do(store.Drop(account.Key(a.Name))))
			delete(is, a.Name)
		} else {
			c, e := a.Change()
			ok(t, "Change", e)
			ok(t, "Do", s.Do(c))
			is[a.Name] = a
		}
		var want []account.Account
		for _, name := range slices.Sorted(maps.Keys(is)) {
			want = append(want, is[name])
		}
		all(t, s, want)
		all(t, opened(t, d), want)
		if got, e := account.Load(s, a.Name); (e == api.OK) != (is[a.Name] != account.Account{}) || got != is[a.Name] {
			t.Fatalf("Load of %q: %v", a.Name, e)
		}
	}
}
