package chain

import (
	"opaline/api"
	"opaline/must"
	"opaline/part"
	"opaline/sha"
)

const (
	lastKind = 11
	maxNote  = 255
)

// Entry is what happened.
type Entry struct {
	Seq, Tick  uint64
	Kind       int
	Name, Note string
}

// Words: the kinds'.
func Words() [12]string {
	return [12]string{
		"", "register", "login", "deny", "lock", "refill",
		"recover", "rotate", "remove", "open", "admin", "refund",
	}
}

// Text: an entry's.
func (e Entry) Text() (string, api.Errno) {
	if wrong := e.check(); wrong != api.OK {
		return "", wrong
	}
	return part.Eight(e.Seq) + part.Eight(e.Tick) + string([]byte{byte(e.Kind)}) + sha.Counted(e.Name, e.Note), api.OK
}

// check: may it be?
func (e Entry) check() api.Errno {
	if e.Kind < 1 || e.Kind > lastKind {
		return api.ErrKind
	}
	if len(e.Name) > api.MaxName || len(e.Note) > maxNote {
		return api.ErrLong
	}
	return api.OK
}

// Parse: the entry of a text.
func Parse(t string) (Entry, api.Errno) { return part.Whole(t, read) }

func read(r *part.Reader) Entry {
	e := Entry{Seq: r.Eight(), Tick: r.Eight(), Kind: int(r.Byte()), Name: r.Counted(), Note: r.Counted()}
	must.Hold(e.check() == api.OK, api.ErrForm)
	return e
}
