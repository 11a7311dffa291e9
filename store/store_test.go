package store_test

import (
	"maps"
	"slices"
	"strings"
	"testing"

	"opaline/api"
	"opaline/disk"
	"opaline/journal"
	"opaline/store"
)

func newDisk(t *testing.T, sectors int) *disk.Disk {
	t.Helper()
	d, e := disk.New(sectors)
	ok(t, "New", e)
	return d
}

func ok(t *testing.T, what string, e api.Errno) {
	t.Helper()
	if e != api.OK {
		t.Fatalf("%s: %v", what, e)
	}
}

func opened(t *testing.T, d *disk.Disk) *store.Store {
	t.Helper()
	s, e := store.Open(d)
	if e != api.OK || s == nil {
		t.Fatalf("Open: %v", e)
	}
	return s
}

// row is a key, and its value.
type row struct{ key, value string }

func rows(s *store.Store, front string) []row {
	var l []row
	for key, value := range s.Keys(front) {
		l = append(l, row{key, value})
	}
	return l
}

// rowsOf are those of what should be there.
func rowsOf(want map[string]string) []row {
	var l []row
	for _, key := range slices.Sorted(maps.Keys(want)) {
		l = append(l, row{key, want[key]})
	}
	return l
}

// holds: there is just that.
func holds(t *testing.T, s *store.Store, want map[string]string) {
	t.Helper()
	if s.Len() != len(want) || !slices.Equal(rows(s, ""), rowsOf(want)) {
		t.Fatalf("%d keys, wanted %d: %.200q", s.Len(), len(want), rows(s, ""))
	}
	for key, value := range want {
		if got, is := s.Get(key); !is || got != value {
			t.Fatalf("Get of %q: %q, %v", key, got, is)
		}
	}
}

// changed: what is there behind changes.
func changed(was map[string]string, l ...store.Change) map[string]string {
	is := maps.Clone(was)
	for _, c := range l {
		if c.Gone {
			delete(is, c.Key)
		} else {
			is[c.Key] = c.Value
		}
	}
	return is
}

// textOf: of all there is.
func textOf(is map[string]string) string {
	text := "w"
	for _, r := range rowsOf(is) {
		text += said(store.Put(r.key, r.value))
	}
	return text
}

// journalOf: the texts of a disk's journal.
func journalOf(t *testing.T, d *disk.Disk) []string {
	t.Helper()
	_, l, e := journal.Open(d)
	ok(t, "journal.Open", e)
	return l
}

func TestDo(t *testing.T) {
	d := newDisk(t, 2048)
	s := opened(t, d)
	is := map[string]string{}
	holds(t, s, is)
	var texts []string
	for _, l := range [][]store.Change{
		{store.Put("a", "1")},
		{store.Put("b", ""), store.Put("c", "3")},
		{store.Put("a", "2"), store.Drop("c")},
		{store.Drop("never")},
		{store.Put("d", "1"), store.Drop("d"), store.Put("e", "1"), store.Put("e", "2")},
		{store.Drop("b"), store.Put("b", "again")},
		fine(),
		{{Key: "a", Value: "no value", Gone: true}},
		{store.Put("a.x", "1"), store.Put("a.", "2"), store.Put("a", "3"), store.Put("A", "4"), store.Put("b.y", "5")},
	} {
		left := s.Left()
		ok(t, "Do", s.Do(l...))
		is = changed(is, l...)
		texts = append(texts, store.Text(l...))
		holds(t, s, is)
		if need := journal.Need(len(store.Text(l...))); s.Left() != left-need || s.Err() != api.OK {
			t.Errorf("Left: %d, was %d, needs %d", s.Left(), left, need)
		}
		if !slices.Equal(journalOf(t, d), texts) {
			t.Error("the journal's texts")
		}
		other := opened(t, d)
		holds(t, other, is)
		if other.Left() != s.Left() {
			t.Errorf("Left, opened: %d, wanted %d", other.Left(), s.Left())
		}
	}
	// What isn't there.
	for _, key := range []string{"", "never", "e\x00", "E", "a.xx"} {
		if got, there := s.Get(key); there || got != "" {
			t.Errorf("Get of %q: %q", key, got)
		}
	}
}

// nothingDone: changes have that error, and nothing is another thing behind it.
func nothingDone(t *testing.T, d *disk.Disk, s *store.Store, want api.Errno, l ...store.Change) {
	t.Helper()
	is, steps, left := rows(s, ""), d.Steps(), s.Left()
	if e := s.Do(l...); e != want {
		t.Errorf("Do of %d changes: %v, wanted %v", len(l), e, want)
	}
	if !slices.Equal(rows(s, ""), is) || d.Steps() != steps || s.Left() != left {
		t.Errorf("behind %v something is another thing", want)
	}
}

func TestDoWrong(t *testing.T) {
	d := newDisk(t, 64)
	s := opened(t, d)
	ok(t, "Do", s.Do(store.Put("a", "1")))
	long := strings.Repeat("v", 4097)
	good, empty := store.Put("a", "2"), store.Put("", "x")
	nothingDone(t, d, s, api.OK)
	nothingDone(t, d, s, api.ErrArg, empty)
	nothingDone(t, d, s, api.ErrArg, store.Drop(""))
	nothingDone(t, d, s, api.ErrArg, store.Put("", long))
	for _, c := range []store.Change{
		store.Put(long[:81], ""), store.Drop(long[:81]), store.Put("a", long), {Key: "a", Value: long, Gone: true},
		store.Put(long, long), store.Put("a", strings.Repeat(long, 16)),
	} {
		nothingDone(t, d, s, api.ErrLong, c)
		// The first one that may not be is told.
		nothingDone(t, d, s, api.ErrLong, good, c, empty)
		nothingDone(t, d, s, api.ErrArg, good, empty, c)
		nothingDone(t, d, s, api.ErrLong, c, good)
	}
	if s.Err() != api.OK {
		t.Errorf("Err: %v", s.Err())
	}
	// Those that may just be.
	ok(t, "Do", s.Do(store.Put(long[:80], long[:4096])))
	holds(t, opened(t, d), map[string]string{"a": "1", long[:80]: long[:4096]})
}

// TestDoStays: what is handed in isn't changed, nor kept.
func TestDoStays(t *testing.T) {
	s := opened(t, newDisk(t, 64))
	room := []store.Change{store.Put("a", "1"), store.Put("b", "2"), store.Put("c", "3")}
	ok(t, "Do", s.Do(room[:2]...))
	if !slices.Equal(room, []store.Change{store.Put("a", "1"), store.Put("b", "2"), store.Put("c", "3")}) {
		t.Error("the changes were changed")
	}
	room[0] = store.Drop("b")
	holds(t, s, map[string]string{"a": "1", "b": "2"})
}

// TestDoRenews: where the changes don't fit any more, all there is then stands alone.
func TestDoRenews(t *testing.T) {
	d := newDisk(t, 32) // halves of 15 sectors
	s := opened(t, d)
	is := map[string]string{}
	for i := range 100 {
		c := []store.Change{store.Put("k"+string(rune('a'+i%5)), strings.Repeat("v", i*3)), store.Drop("k" + string(rune('b'+i%7)))}
		left, steps := s.Left(), d.Steps()
		ok(t, "Do", s.Do(c...))
		is = changed(is, c...)
		need := journal.Need(len(store.Text(c...)))
		texts := journalOf(t, d)
		if renewed := need > left; renewed != (len(texts) == 1 && texts[0] == textOf(is)) {
			t.Errorf("change %d of %d sectors, where %d are left: %d texts", i, need, left, len(texts))
		}
		if need <= left && d.Steps()-steps != need+5 {
			t.Errorf("change %d: %d steps", i, d.Steps()-steps)
		}
		holds(t, s, is)
		holds(t, opened(t, d), is)
	}
}

// TestDoRenewsWithChanges: what is kept by all counts the changes under way, so that more may be asked at once than would fit.
func TestDoRenewsWithChanges(t *testing.T) {
	d := newDisk(t, 32)
	s := opened(t, d)
	value := strings.Repeat("v", 3000)
	ok(t, "Do", s.Do(store.Put("a", value), store.Put("b", value)))
	// As it is there is no room for a third one, in no half; without a there is.
	nothingDone(t, d, s, api.ErrSpace, store.Put("c", value))
	ok(t, "Do", s.Do(store.Drop("a"), store.Put("c", value)))
	holds(t, opened(t, d), map[string]string{"b": value, "c": value})
	var many []store.Change
	for range 100 {
		many = append(many, store.Put("c", value), store.Put("d", "first"), store.Put("d", "last"))
	}
	ok(t, "Do of many", s.Do(many...))
	holds(t, opened(t, d), map[string]string{"b": value, "c": value, "d": "last"})
	if texts := journalOf(t, d); len(texts) != 1 || texts[0] != textOf(map[string]string{"b": value, "c": value, "d": "last"}) {
		t.Errorf("%d texts", len(texts))
	}
	ok(t, "Do", s.Do(many...))
	ok(t, "Do of drops", s.Do(store.Drop("b"), store.Drop("c"), store.Drop("d")))
	holds(t, opened(t, d), map[string]string{})
}

// TestDoNoSpace: what has no room by any way isn't done, and loses nothing.
func TestDoNoSpace(t *testing.T) {
	d := newDisk(t, 32)
	s := opened(t, d)
	value := strings.Repeat("v", 2600)
	ok(t, "Do", s.Do(store.Put("a", value), store.Put("b", value)))
	nothingDone(t, d, s, api.ErrSpace, store.Put("d", "new"), store.Put("c", value), store.Drop("never"))
	nothingDone(t, d, s, api.ErrSpace, store.Put("c", strings.Repeat(value, 2)[:4096]))
	if s.Err() != api.OK {
		t.Errorf("Err: %v", s.Err())
	}
	holds(t, opened(t, d), map[string]string{"a": value, "b": value})
	ok(t, "Do of less", s.Do(store.Put("b", "new")))
	holds(t, opened(t, d), map[string]string{"a": value, "b": "new"})
}

func TestRenew(t *testing.T) {
	d := newDisk(t, 64)
	s := opened(t, d)
	ok(t, "Renew of none", s.Renew())
	if texts := journalOf(t, d); !slices.Equal(texts, []string{"w"}) {
		t.Errorf("Renew of none: %q", texts)
	}
	is := map[string]string{"b": "2", "a": "1", "\xff": "3", "a.": ""}
	ok(t, "Do", s.Do(store.Put("b", "2"), store.Put("\xff", "3"), store.Put("a", "0"), store.Put("c", "4")))
	ok(t, "Do", s.Do(store.Put("a", "1"), store.Drop("c"), store.Put("a.", "")))
	ok(t, "Renew", s.Renew())
	if texts := journalOf(t, d); !slices.Equal(texts, []string{textOf(is)}) || s.Left() != 30 {
		t.Errorf("Renew: %q", texts)
	}
	holds(t, s, is)
	holds(t, opened(t, d), is)
}

func TestLost(t *testing.T) {
	d := newDisk(t, 32)
	s := opened(t, d)
	is := map[string]string{"a": "1", "b": "2"}
	ok(t, "Do", s.Do(store.Put("a", "1"), store.Put("b", "2")))
	left := s.Left()
	d.Fuse(3)
	if e := s.Do(store.Put("a", "new"), store.Drop("b")); e != api.ErrPower {
		t.Errorf("Do: %v", e)
	}
	d.Crash()
	// What it is lost by comes ahead of all else.
	for _, l := range [][]store.Change{nil, {store.Put("a", "2")}, {store.Put("", "")}, {store.Put("x", strings.Repeat("v", 5000))}} {
		nothingDone(t, d, s, api.ErrPower, l...)
	}
	if e := s.Renew(); e != api.ErrPower || s.Err() != api.ErrPower || s.Left() != left {
		t.Errorf("Renew: %v, Err %v, Left %d", e, s.Err(), s.Left())
	}
	holds(t, s, is)
	holds(t, opened(t, d), is)
	// By Renew, too.
	s = opened(t, d)
	d.Fuse(0)
	if e := s.Renew(); e != api.ErrPower || s.Err() != api.ErrPower {
		t.Errorf("Renew without power: %v, Err %v", e, s.Err())
	}
	if o, e := store.Open(d); o != nil || e != api.ErrPower {
		t.Errorf("Open without power: %v", e)
	}
}

func TestNil(t *testing.T) {
	var s *store.Store
	for _, l := range [][]store.Change{nil, {store.Put("a", "1")}, {store.Put("", "")}} {
		if e := s.Do(l...); e != api.ErrNil {
			t.Errorf("Do: %v", e)
		}
	}
	if e := s.Renew(); e != api.ErrNil || s.Err() != api.ErrNil {
		t.Errorf("Renew: %v, Err %v", e, s.Err())
	}
	if v, is := s.Get("a"); is || v != "" || s.Len() != 0 || s.Left() != 0 || len(rows(s, "")) != 0 {
		t.Error("something is told")
	}
	if o, e := store.Open(nil); o != nil || e != api.ErrNil {
		t.Errorf("Open of no disk: %v", e)
	}
}
