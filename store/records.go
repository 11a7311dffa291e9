package store

import (
	"maps"
	"slices"
	"strings"
)

type record struct{ value string }

// records stand by their keys.
type records map[string]record

// change: what becomes of them, one behind the other.
func (r records) change(l []Change) {
	for _, c := range l {
		if c.Gone {
			delete(r, c.Key)
		} else {
			r[c.Key] = record{c.Value}
		}
	}
}

// rising: the keys that begin so.
func (r records) rising(front string) []string {
	l := slices.DeleteFunc(slices.Collect(maps.Keys(r)), func(key string) bool {
		return !strings.HasPrefix(key, front)
	})
	slices.Sort(l)
	return l
}

// text: that of all there is.
func (r records) text() string {
	var l []Change
	for _, key := range r.rising("") {
		l = append(l, Put(key, r[key].value))
	}
	return text(byAll, l)
}
