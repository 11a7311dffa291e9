package account

import (
	"strings"

	"opaline/api"
	"opaline/must"
	"opaline/store"
)

// front stands ahead of names in the store, so that no account's key is that of another thing.
const front = "a."

// Key: a name's, in the store.
func Key(name string) string { return front + name }

// Name: of a key.
func Name(key string) (string, bool) {
	name, is := strings.CutPrefix(key, front)
	if !is || Named(name) != api.OK {
		return "", false
	}
	return name, true
}

// Change: what keeps it.
func (a Account) Change() (store.Change, api.Errno) {
	return must.Door(func() store.Change {
		return store.Put(Key(a.Name), must.Have(a.Text()))
	})
}

// Load: an account.
func Load(s *store.Store, name string) (Account, api.Errno) {
	return must.Door(func() Account {
		must.OK(Named(name))
		text, is := s.Get(Key(name))
		must.Hold(is, api.ErrNone)
		return kept(Key(name), text)
	})
}

// All: of them.
func All(s *store.Store) ([]Account, api.Errno) {
	return must.Door(func() []Account {
		var l []Account
		for key, text := range s.Keys(front) {
			l = append(l, kept(key, text))
		}
		return l
	})
}

// kept: the account that is kept by a key; ErrBroken ends all, where that isn't the one of that key.
func kept(key, text string) Account {
	a, e := Parse(text)
	must.Hold(e == api.OK && Key(a.Name) == key, api.ErrBroken)
	return a
}
