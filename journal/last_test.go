package journal_test

import (
	"math/rand"
	"slices"
	"testing"

	"opaline/api"
	"opaline/disk"
	"opaline/journal"
)

// fatesOf tell of each sector that waits, by chance: none of it, all of it, or some.
func fatesOf(r *rand.Rand, waits int) []disk.Fate {
	l := make([]disk.Fate, waits)
	for i := range l {
		switch r.Intn(4) {
		case 0:
			l[i].Keep = 0
		case 1:
			l[i].Keep = 512
		case 2:
			l[i].Keep = r.Intn(80)
		default:
			l[i].Keep = r.Intn(513)
		}
	}
	return l
}

// reopened: the journal that a crash leaves, where the power goes in opening, too, a few times.
func reopened(t *testing.T, d *disk.Disk, r *rand.Rand) (*journal.Journal, []string) {
	t.Helper()
	for range r.Intn(4) {
		d.Fuse(r.Intn(6))
		if j, l, e := journal.Open(d); e == api.OK {
			d.Fuse(-1)
			return j, l
		} else if e != api.ErrPower {
			t.Fatalf("Open behind a crash: %v", e)
		}
		d.Crash(fatesOf(r, len(d.Waits()))...)
	}
	j, l, e := journal.Open(d)
	if e != api.OK {
		t.Fatalf("Open behind a crash: %v", e)
	}
	return j, l
}

// drawn is a change by chance.
func drawn(r *rand.Rand) change {
	l := changes()
	c := l[r.Intn(len(l))]
	c.renew = r.Intn(5) == 0
	return c
}

// behind: the texts behind a change.
func behind(texts []string, c change) []string {
	if c.renew {
		return []string{c.text}
	}
	return append(slices.Clone(texts), c.text)
}

// TestLast: journals that go on through very many crashes lose nothing that was answered.
func TestLast(t *testing.T) {
	for seed := range int64(60) {
		r := chance(seed)
		d := newModel(32 + int(seed%9)).copied(t)
		j := opens(t, d, nil)
		var texts []string
		for range 150 {
			c := drawn(r)
			if r.Intn(2) == 0 {
				d.Fuse(r.Intn(14))
			}
			then := behind(texts, c)
			switch e := c.of(j); e {
			case api.OK:
				texts = then
			case api.ErrSpace:
			case api.ErrPower:
				d.Crash(fatesOf(r, len(d.Waits()))...)
				var l []string
				j, l = reopened(t, d, r)
				if !slices.Equal(l, texts) && !slices.Equal(l, then) {
					t.Fatalf("seed %d: %d texts, neither %d nor %d", seed, len(l), len(texts), len(then))
				}
				texts = l
			default:
				t.Fatalf("seed %d: %v", seed, e)
			}
			d.Fuse(-1)
			if j.Count() != len(texts) {
				t.Fatalf("seed %d: Count %d, wanted %d", seed, j.Count(), len(texts))
			}
		}
		opens(t, d, texts)
	}
}

// TestTorn: each step's sector, torn at each place, leads to what was, or what is.
func TestTorn(t *testing.T) {
	m := newModel(32)
	for i, c := range changes()[:7] {
		ahead := *m
		ahead.image = slices.Clone(m.image)
		c.ofModel(m)
		old, now := 0, 0
		for n := range m.told() {
			for keep := range 513 {
				// Behind a mark's last byte there are noughts alone: a few places stand for those.
				if keep > 80 && keep < 512 && keep%61 != 0 {
					continue
				}
				d := ahead.copied(t)
				j := opens(t, d, ahead.texts)
				d.Fuse(n)
				if e := c.of(j); e != api.ErrPower {
					t.Fatal(e)
				}
				d.Crash(disk.Fate{Keep: keep}, disk.Fate{Keep: 512 - keep})
				j, l, e := journal.Open(d)
				switch {
				case e == api.OK && slices.Equal(l, ahead.texts):
					old++
				case e == api.OK && slices.Equal(l, m.texts):
					now++
				default:
					t.Fatalf("change %d, step %d, %d bytes kept: %d texts, %v", i, n, keep, len(l), e)
				}
				// It goes on.
				ok(t, "Add", j.Add("more"))
				opens(t, d, append(slices.Clone(l), "more"))
			}
		}
		if old == 0 || now == 0 {
			t.Errorf("change %d: %d times what was, %d times what is", i, old, now)
		}
	}
}

// TestTurned: behind changes that were all done any byte may be turned.
func TestTurned(t *testing.T) {
	m := newModel(32)
	for i, c := range changes() {
		c.ofModel(m)
		// Each half counts once with few frames and once with many; of all changes it would take long.
		if i != 0 && i != 4 && i != 8 && i != 11 {
			continue
		}
		d := m.copied(t)
		spoilt := 0
		for at := range m.image {
			for place := range 512 {
				by := byte(1 + (at*31+place*7+i)%255)
				d.Turn(at, place, by)
				_, l, e := journal.Open(d)
				if e == api.ErrBroken {
					spoilt++
				} else if e != api.OK || !slices.Equal(l, m.texts) {
					t.Fatalf("behind change %d, byte %d of %d: %d texts, %v", i, place, at, len(l), e)
				}
				if d.Lasts(at) != m.image[at] {
					put(t, d, at, m.image[at])
				}
			}
		}
		if spoilt != m.used*512 {
			t.Errorf("behind change %d: %d bytes are broken of %d", i, spoilt, m.used*512)
		}
	}
}

// TestTurnedOfNone: where nothing was added, a byte makes nothing of it.
func TestTurnedOfNone(t *testing.T) {
	for at := range 32 {
		for place := range 512 {
			d, e := disk.New(32)
			ok(t, "New", e)
			d.Turn(at, place, 0xff)
			opens(t, d, nil)
		}
	}
}
