package store_test

import (
	"slices"
	"strings"
	"testing"

	"opaline/api"
	"opaline/store"
)

func TestPutDrop(t *testing.T) {
	if c := store.Put("k", "v"); c != (store.Change{Key: "k", Value: "v"}) {
		t.Errorf("Put: %+v", c)
	}
	if c := store.Drop("k"); c != (store.Change{Key: "k", Gone: true}) {
		t.Errorf("Drop: %+v", c)
	}
	if store.Put("", "") != (store.Change{}) || store.Drop("") != (store.Change{Gone: true}) {
		t.Error("of the empty key")
	}
}

// counted is a part behind its length.
func counted(s string) string { return string([]byte{byte(len(s) >> 8), byte(len(s))}) + s }

// said is what a text says of one change.
func said(c store.Change) string {
	s := counted(c.Key) + counted(c.Value)
	if c.Gone {
		return s + "\x01"
	}
	return s + "\x00"
}

// fine are changes that may be, to the ends of lengths.
func fine() []store.Change {
	return []store.Change{
		store.Put("a", "1"),
		store.Put("a", ""),
		store.Drop("a"),
		store.Drop("never"),
		store.Put("\x00", "\x00\x01a\x00"),
		store.Put("\xff\xfe", strings.Repeat("\xff", 300)),
		store.Put(strings.Repeat("k", 80), strings.Repeat("v", 4096)),
		store.Put("a", "w"),
		{Key: "both", Value: "value", Gone: true},
		{Key: strings.Repeat("d", 80), Value: strings.Repeat("v", 4096), Gone: true},
	}
}

func TestText(t *testing.T) {
	if got := store.Text(); got != "a" {
		t.Errorf("Text of none: %q", got)
	}
	if got := store.Text(store.Put("key", "v"), store.Drop("b")); got != "a\x00\x03key\x00\x01v\x00\x00\x01b\x00\x00\x01" {
		t.Errorf("Text: %q", got)
	}
	all := "a"
	for i, c := range fine() {
		if got := store.Text(c); got != "a"+said(c) {
			t.Errorf("Text of %d", i)
		}
		all += said(c)
	}
	if store.Text(fine()...) != all {
		t.Error("Text of all")
	}
	// It writes what is no change, too.
	wrong := []store.Change{store.Put("", ""), store.Put(strings.Repeat("k", 300), strings.Repeat("v", 65537))}
	want := "a\x00\x00\x00\x00\x00\x01\x2c" + wrong[1].Key + "\x00\x01" + wrong[1].Value + "\x00"
	if store.Text(wrong...) != want {
		t.Error("Text of what is no change")
	}
}

// read: a text is one of these changes, and of no others.
func read(t *testing.T, text string, all bool, want ...store.Change) {
	t.Helper()
	l, byAll, e := store.Parse(text)
	if e != api.OK || byAll != all || !slices.Equal(l, want) {
		t.Errorf("Parse of %d bytes: %d changes, %v, %v", len(text), len(l), byAll, e)
	}
}

func TestParse(t *testing.T) {
	read(t, "a", false)
	read(t, "w", true)
	for _, c := range fine() {
		read(t, store.Text(c), false, c)
	}
	read(t, store.Text(fine()...), false, fine()...)
	rising := []store.Change{
		store.Put("\x00", "n"), store.Put("\x00\x00", ""), store.Put("a", "1"), store.Put("a\x00", "2"),
		store.Put("aa", "3"), store.Put("b", strings.Repeat("v", 4096)), store.Put("\xff", "4"),
	}
	text := "w"
	for _, c := range rising {
		text += said(c)
		read(t, "w"+said(c), true, c)
	}
	read(t, text, true, rising...)
	read(t, "a"+text[1:], false, rising...)
}

func TestParseWrong(t *testing.T) {
	long := strings.Repeat("v", 4097)
	for name, text := range map[string]string{
		"nothing":                    "",
		"no word":                    "b",
		"a great word":               "A" + said(store.Put("a", "1")),
		"a number":                   "\x00",
		"a byte":                     "ax",
		"an empty key":               "a" + said(store.Put("", "1")),
		"an empty key that is gone":  "a" + said(store.Drop("")),
		"an empty key, of all":       "w" + said(store.Put("", "1")),
		"a long key":                 "a" + said(store.Put(long[:81], "1")),
		"a long key that is gone":    "a" + said(store.Drop(long[:81])),
		"a long value":               "a" + said(store.Put("a", long)),
		"a long value that is gone":  "a" + said(store.Change{Key: "a", Value: long, Gone: true}),
		"a long value, of all":       "w" + said(store.Put("a", long)),
		"a flag of 2":                "a" + counted("a") + counted("1") + "\x02",
		"a flag of 255":              "a" + counted("a") + counted("1") + "\xff",
		"a flag of 0 as a digit":     "a" + counted("a") + counted("1") + "0",
		"one gone, of all":           "w" + said(store.Drop("a")),
		"one gone behind, of all":    "w" + said(store.Put("a", "1")) + said(store.Drop("b")),
		"a key twice, of all":        "w" + said(store.Put("a", "1")) + said(store.Put("a", "1")),
		"keys that fall, of all":     "w" + said(store.Put("b", "1")) + said(store.Put("a", "1")),
		"a last key falls, of all":   "w" + said(store.Put("a", "1")) + said(store.Put("c", "1")) + said(store.Put("b", "1")),
		"a front of the one ahead":   "w" + said(store.Put("ab", "1")) + said(store.Put("a", "1")),
		"a byte more":                store.Text(fine()...) + "\x00",
		"a word more":                store.Text(fine()...) + "a",
		"a wrong one behind":         store.Text(fine()...) + said(store.Put("", "")),
		"a length past the text":     "a\x00\x05abc",
		"the greatest length":        "a\xff\xff" + long,
		"a value's length past it":   "a\x00\x01a\x00\x02v\x00",
		"another text's word within": "a" + store.Text(store.Put("a", "1")),
	} {
		if l, all, e := store.Parse(text); e != api.ErrForm || len(l) != 0 || all {
			t.Errorf("%s: %d changes, %v, %v", name, len(l), all, e)
		}
	}
}

// TestParseCut: a text that ends within a change is none.
func TestParseCut(t *testing.T) {
	for _, word := range []string{"a", "w"} {
		ends := map[int]int{1: 0}
		text := word
		for n, c := range []store.Change{store.Put("a", "12"), store.Put("bcd", ""), store.Put("c", "3")} {
			text += said(c)
			ends[len(text)] = n + 1
		}
		for n := 1; n <= len(text); n++ {
			l, all, e := store.Parse(text[:n])
			count, whole := ends[n]
			if whole && (e != api.OK || len(l) != count || all != (word == "w")) || !whole && (e != api.ErrForm || len(l) != 0 || all) {
				t.Errorf("%d bytes by %s: %d changes, %v", n, word, len(l), e)
			}
		}
	}
}

// TestTextStays hands in a list with spare room, of which nothing may be changed.
func TestTextStays(t *testing.T) {
	room := fine()
	text := store.Text(room[:3]...)
	if !slices.Equal(room, fine()) || text != store.Text(room[:3]...) {
		t.Error("the changes were changed")
	}
	l, _, _ := store.Parse(text)
	l[0] = store.Put("another", "one")
	read(t, text, false, fine()[:3]...)
}
