package store

import (
	"strings"

	"opaline/api"
	"opaline/must"
	"opaline/part"
	"opaline/sha"
)

const (
	maxKey    = 80
	maxValue  = 4096
	byChanges = 'a'
	byAll     = 'w'
)

// Change is what becomes of a key.
type Change struct {
	Key, Value string
	Gone       bool
}

// Put: a key has a value.
func Put(key, value string) Change { return Change{Key: key, Value: value} }

// Drop: it has none.
func Drop(key string) Change { return Change{Key: key, Gone: true} }

// check: may it be?
func (c Change) check() api.Errno {
	if c.Key == "" {
		return api.ErrArg
	}
	if len(c.Key) > maxKey || len(c.Value) > maxValue {
		return api.ErrLong
	}
	return api.OK
}

// Text: of changes.
func Text(l ...Change) string { return text(byChanges, l) }

func text(by byte, l []Change) string {
	var out strings.Builder
	out.WriteByte(by)
	for _, c := range l {
		out.WriteString(sha.Counted(c.Key, c.Value))
		out.WriteString(part.Flag(c.Gone))
	}
	return out.String()
}

// parsed is what a text of changes says.
type parsed struct {
	l   []Change
	all bool
}

// Parse: the changes that a text is.
func Parse(t string) (l []Change, all bool, e api.Errno) {
	out, e := part.Whole(t, parse)
	return out.l, out.all, e
}

func parse(r *part.Reader) parsed {
	by := r.Byte()
	out := parsed{all: by == byAll}
	must.Hold(out.all || by == byChanges, api.ErrForm)
	last := ""
	for r.More() {
		c := changeOf(r)
		// No key is empty, so that the first one rises too.
		must.Hold(!out.all || c.Key > last && !c.Gone, api.ErrForm)
		last = c.Key
		out.l = append(out.l, c)
	}
	return out
}

func changeOf(r *part.Reader) Change {
	c := Change{Key: r.Counted(), Value: r.Counted(), Gone: r.Flag()}
	must.Hold(c.check() == api.OK, api.ErrForm)
	return c
}
