package store_test

import (
	"math/rand"
	"slices"
	"strings"
	"testing"

	"opaline/api"
	"opaline/disk"
	"opaline/journal"
	"opaline/store"
)

// kept is a disk whose journal has these texts.
func kept(t *testing.T, texts ...string) *disk.Disk {
	t.Helper()
	d := newDisk(t, 64)
	j, _, e := journal.Open(d)
	ok(t, "journal.Open", e)
	for _, text := range texts {
		ok(t, "Add", j.Add(text))
	}
	return d
}

func TestOpen(t *testing.T) {
	a, b := store.Put("a", "1"), store.Put("b", "2")
	for name, c := range map[string]struct {
		texts []string
		want  map[string]string
	}{
		"none":                   {nil, map[string]string{}},
		"no changes":             {[]string{"a", "w", "a"}, map[string]string{}},
		"changes":                {[]string{store.Text(a), store.Text(b, store.Put("a", "3"))}, map[string]string{"a": "3", "b": "2"}},
		"all":                    {[]string{"w" + said(a) + said(b)}, map[string]string{"a": "1", "b": "2"}},
		"changes behind all":     {[]string{"w" + said(a) + said(b), store.Text(store.Drop("a"))}, map[string]string{"b": "2"}},
		"all behind changes":     {[]string{store.Text(a, b), "w" + said(store.Put("b", "3"))}, map[string]string{"b": "3"}},
		"none behind changes":    {[]string{store.Text(a, b), "w"}, map[string]string{}},
		"all twice":              {[]string{"w" + said(a), "w" + said(b)}, map[string]string{"b": "2"}},
		"changes on either side": {[]string{store.Text(a), "w" + said(b), store.Text(store.Put("c", ""))}, map[string]string{"b": "2", "c": ""}},
	} {
		t.Run(name, func(t *testing.T) {
			d := kept(t, c.texts...)
			s := opened(t, d)
			holds(t, s, c.want)
			left := 31 - len(c.texts)
			if s.Left() != left || s.Err() != api.OK {
				t.Errorf("Left: %d, wanted %d", s.Left(), left)
			}
			ok(t, "Do", s.Do(store.Put("z", "9")))
			holds(t, opened(t, d), changed(c.want, store.Put("z", "9")))
		})
	}
}

func TestOpenBroken(t *testing.T) {
	fine := store.Text(store.Put("a", "1"))
	for _, wrong := range []string{
		"", "x", "ax", "b" + fine[1:], fine + "\x00", fine[:len(fine)-1], "w" + said(store.Drop("a")), "a" + said(store.Put("", "")),
		"w" + said(store.Put("a", "1")) + said(store.Put("a", "1")), "a" + said(store.Put("a", strings.Repeat("v", 4097))),
	} {
		for name, d := range map[string]*disk.Disk{
			"alone":      kept(t, wrong),
			"first":      kept(t, wrong, fine),
			"last":       kept(t, fine, wrong),
			"ahead of w": kept(t, fine, wrong, "w"),
		} {
			if s, e := store.Open(d); s != nil || e != api.ErrBroken {
				t.Errorf("%.20q %s: %v", wrong, name, e)
			}
		}
	}
	// Layer 17's own.
	d := kept(t, fine)
	d.Turn(2, 100, 1)
	if s, e := store.Open(d); s != nil || e != api.ErrBroken {
		t.Errorf("a turned byte: %v", e)
	}
}

func TestKeys(t *testing.T) {
	s := opened(t, newDisk(t, 64))
	var l []store.Change
	for i, key := range []string{"b", "a.c", "a", "\xff", "a.", "ab", "a.b", "A.", "\x00", "a.b\x00", "c", "\xff\xff", "a/"} {
		l = append(l, store.Put(key, strings.Repeat("v", i)))
	}
	ok(t, "Do", s.Do(l...))
	for front, want := range map[string][]row{
		"a.":    {{"a.", "vvvv"}, {"a.b", "vvvvvv"}, {"a.b\x00", "vvvvvvvvv"}, {"a.c", "v"}},
		"a.b":   {{"a.b", "vvvvvv"}, {"a.b\x00", "vvvvvvvvv"}},
		"\xff":  {{"\xff", "vvv"}, {"\xff\xff", strings.Repeat("v", 11)}},
		"c":     {{"c", strings.Repeat("v", 10)}},
		"cc":    nil,
		"B":     nil,
		"a.b.c": nil,
	} {
		if got := rows(s, front); !slices.Equal(got, want) {
			t.Errorf("Keys of %q: %q", front, got)
		}
	}
	if got := rows(s, ""); len(got) != 13 || !slices.IsSortedFunc(got, func(a, b row) int { return strings.Compare(a.key, b.key) }) {
		t.Errorf("Keys of all: %q", got)
	}
}

// TestKeysAgain: rows may be gone through again, and left; they go through what is there then.
func TestKeysAgain(t *testing.T) {
	s := opened(t, newDisk(t, 64))
	all := s.Keys("k")
	count := func() int {
		n := 0
		for range all {
			n++
		}
		return n
	}
	if count() != 0 {
		t.Error("keys of an empty store")
	}
	ok(t, "Do", s.Do(store.Put("k1", "1"), store.Put("k2", "2"), store.Put("k3", "3")))
	for range 3 {
		if count() != 3 {
			t.Errorf("%d keys", count())
		}
		left := 0
		for key := range all {
			left++
			if key == "k2" {
				break
			}
		}
		if left != 2 {
			t.Errorf("left behind %d keys", left)
		}
	}
	ok(t, "Do", s.Do(store.Drop("k1"), store.Put("k3", "new")))
	var got []row
	for key, value := range all {
		got = append(got, row{key, value})
		// Rows within rows.
		if count() != 2 {
			t.Errorf("%d keys within", count())
		}
	}
	if !slices.Equal(got, []row{{"k2", "2"}, {"k3", "new"}}) {
		t.Errorf("behind changes: %q", got)
	}
}

func fates(r *rand.Rand, waits int) []disk.Fate {
	l := make([]disk.Fate, waits)
	for i := range l {
		l[i].Keep = r.Intn(700) - 90
	}
	return l
}

// drawn are a few changes by chance; some of them need all of the journal.
func drawn(r *rand.Rand) []store.Change {
	var l []store.Change
	for range 1 + r.Intn(4) {
		key := "k" + string(rune('a'+r.Intn(6)))
		switch r.Intn(4) {
		case 0:
			l = append(l, store.Drop(key))
		case 1:
			l = append(l, store.Put(key, strings.Repeat(key, r.Intn(900))))
		default:
			l = append(l, store.Put(key, strings.Repeat("x", r.Intn(40))))
		}
	}
	return l
}

// TestLast: behind each crash there is what was ahead of the changes under way, or behind them, whole.
func TestLast(t *testing.T) {
	old, now, renewed := 0, 0, 0
	for seed := range int64(40) {
		r := rand.New(rand.NewSource(seed))
		d := newDisk(t, 32)
		s := opened(t, d)
		is := map[string]string{}
		for range 150 {
			l := drawn(r)
			then := changed(is, l...)
			if r.Intn(2) == 0 {
				d.Fuse(r.Intn(20))
			}
			left := s.Left()
			e := s.Do(l...)
			if e == api.OK && s.Left() > left {
				renewed++
			}
			if e == api.OK {
				is = then
			} else if e == api.ErrPower {
				holds(t, s, is)
				d.Crash(fates(r, len(d.Waits()))...)
				s = opened(t, d)
				if got := rows(s, ""); slices.Equal(got, rowsOf(then)) {
					is = then
					now++
				} else {
					old++
				}
			} else if e != api.ErrSpace {
				t.Fatalf("seed %d: %v", seed, e)
			}
			d.Fuse(-1)
			holds(t, s, is)
		}
		holds(t, opened(t, d), is)
	}
	if old == 0 || now == 0 || renewed == 0 {
		t.Errorf("%d times what was, %d times what is, %d times anew", old, now, renewed)
	}
}

// TestLastRenew: all steps of beginning anew, too.
func TestLastRenew(t *testing.T) {
	value := strings.Repeat("v", 2500)
	l := []store.Change{store.Put("a", "new"), store.Drop("b"), store.Put("c", value)}
	was := map[string]string{"a": value, "b": value}
	old, now := 0, 0
	for n := 0; ; n++ {
		for _, fate := range []int{0, 11, 12, 60, 75, 76, 300, 512} {
			d := newDisk(t, 32)
			s := opened(t, d)
			ok(t, "Do", s.Do(store.Put("a", value), store.Put("b", value)))
			ok(t, "Renew", s.Renew())
			d.Fuse(n)
			if e := s.Do(l...); e == api.OK {
				// Ten sectors and a barrier to wipe, six of the frame, the marks and their barriers.
				if n != 10+1+6+5 || old == 0 || now == 0 {
					t.Errorf("%d steps, %d times what was, %d times what is", n, old, now)
				}
				return
			}
			d.Crash(slices.Repeat([]disk.Fate{{Keep: fate}}, len(d.Waits()))...)
			s = opened(t, d)
			if s.Len() == 2 && rows(s, "")[1].key == "b" {
				holds(t, s, was)
				old++
			} else {
				holds(t, s, changed(was, l...))
				now++
			}
		}
	}
}
