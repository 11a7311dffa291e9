package journal_test

import (
	"math"
	"slices"
	"testing"

	"opaline/api"
	"opaline/disk"
	"opaline/journal"
)

// TestChanges: what is written, and how many steps it takes, on disks of several sizes.
func TestChanges(t *testing.T) {
	for _, size := range []int{32, 33, 40, 2047, 2048} {
		m := newModel(size)
		d := m.copied(t)
		j := opens(t, d, nil)
		m.alike(t, d, j)
		for i, c := range changes() {
			before := d.Steps()
			ok(t, "change", c.of(j))
			c.ofModel(m)
			m.alike(t, d, j)
			if steps := m.told(); d.Steps()-before != len(steps) {
				t.Errorf("change %d: %d steps, wanted %d", i, d.Steps()-before, len(steps))
			}
			// Opened anew it is the same, and opening has nothing to wipe.
			before = d.Steps()
			m.alike(t, d, opens(t, d, m.texts))
			if d.Steps() != before {
				t.Errorf("Open behind change %d: %d steps", i, d.Steps()-before)
			}
		}
	}
}

// TestSteps: each step is done in its turn; where the power goes ahead of it the journal is lost, and told as it was.
func TestSteps(t *testing.T) {
	m := newModel(32)
	for i, c := range changes() {
		ahead := *m
		ahead.image = slices.Clone(m.image)
		c.ofModel(m)
		steps := m.told()
		for n := range steps {
			d := ahead.copied(t)
			j := opens(t, d, ahead.texts)
			d.Fuse(n)
			if e := c.of(j); e != api.ErrPower {
				t.Fatalf("change %d, a fuse of %d: %v", i, n, e)
			}
			lostAt(t, d, j, &ahead)
			halfway(t, d, ahead.image, steps[:n])
		}
	}
}

// lostAt: a journal that is lost does nothing, whether there is power or not, and tells what was.
func lostAt(t *testing.T, d *disk.Disk, j *journal.Journal, ahead *model) {
	t.Helper()
	steps := d.Steps()
	for _, c := range []change{{text: "x"}, {renew: true, text: "x"}, {text: bytesOf(100000)}, {renew: true, text: bytesOf(100000)}} {
		if e := c.of(j); e != api.ErrPower {
			t.Fatalf("a change of one that is lost: %v", e)
		}
	}
	if j.Err() != api.ErrPower || j.Count() != len(ahead.texts) || j.Generation() != ahead.generation || j.Left() != ahead.left() {
		t.Fatalf("lost: %v, Count %d, Generation %d, Left %d", j.Err(), j.Count(), j.Generation(), j.Left())
	}
	if d.Steps() != steps {
		t.Fatal("lost, and steps were done")
	}
}

// halfway: a disk whose image was that has done just these steps.
func halfway(t *testing.T, d *disk.Disk, image []api.Block, steps []step) {
	t.Helper()
	lasts := slices.Clone(image)
	waits := map[int]api.Block{}
	for _, s := range steps {
		if !s.barrier {
			waits[s.at] = s.b
			continue
		}
		for at, b := range waits {
			lasts[at] = b
		}
		clear(waits)
	}
	if !slices.Equal(imageOf(d), lasts) {
		t.Fatalf("behind %d steps another thing lasts", len(steps))
	}
	if len(d.Waits()) != len(waits) {
		t.Fatalf("behind %d steps these wait: %v", len(steps), d.Waits())
	}
	d.Crash(slices.Repeat([]disk.Fate{{Keep: 512}}, len(waits))...)
	for at, b := range waits {
		if d.Lasts(at) != b {
			t.Fatalf("behind %d steps another thing waits in %d", len(steps), at)
		}
	}
}

// TestLostStays: power that comes again doesn't bring the journal back, opening does.
func TestLostStays(t *testing.T) {
	m := newModel(40)
	d := m.copied(t)
	j := opens(t, d, nil)
	ok(t, "Add", j.Add("one"))
	d.Fuse(0)
	if e := j.Renew("two"); e != api.ErrPower {
		t.Errorf("Renew: %v", e)
	}
	d.Crash()
	m.add("one")
	lostAt(t, d, j, m)
	m.alike(t, d, opens(t, d, []string{"one"}))
}

func TestSpace(t *testing.T) {
	for _, size := range []int{32, 33, 50} {
		half := (size - 2) / 2
		m := newModel(size)
		d := m.copied(t)
		j := opens(t, d, nil)
		most := half*512 - 60
		noSpace(t, m, d, j, change{text: bytesOf(most + 1)})
		noSpace(t, m, d, j, change{renew: true, text: bytesOf(most + 1)})
		for _, c := range []change{{text: bytesOf(most)}, {renew: true, text: bytesOf(most)}, {renew: true, text: ""}} {
			ok(t, "a change that just fits", c.of(j))
			c.ofModel(m)
			m.alike(t, d, j)
			if m.left() == 0 {
				noSpace(t, m, d, j, change{text: ""})
			}
			noSpace(t, m, d, j, change{renew: true, text: bytesOf(most + 1)})
		}
		// The rest of a half, and no byte more.
		noSpace(t, m, d, j, change{text: bytesOf(most - 512 + 1)})
		ok(t, "Add of the rest", j.Add(bytesOf(most-512)))
		m.add(bytesOf(most - 512))
		m.alike(t, d, j)
		m.alike(t, d, opens(t, d, m.texts))
	}
}

// noSpace: a change that doesn't fit does nothing, and loses nothing; that is known ahead of the power.
func noSpace(t *testing.T, m *model, d *disk.Disk, j *journal.Journal, c change) {
	t.Helper()
	steps := d.Steps()
	d.Fuse(0)
	e := c.of(j)
	if e != api.ErrSpace || d.Steps() != steps || d.Down() {
		t.Fatalf("a change of %d bytes: %v", len(c.text), e)
	}
	d.Fuse(-1)
	m.alike(t, d, j)
}

// TestSpacePower: that it doesn't fit is named ahead of the power that is gone.
func TestSpacePower(t *testing.T) {
	d := newModel(32).copied(t)
	j := opens(t, d, nil)
	d.Fuse(0)
	if e := d.Barrier(); e != api.ErrPower {
		t.Fatal(e)
	}
	if e := j.Add(bytesOf(15 * 512)); e != api.ErrSpace || j.Err() != api.OK {
		t.Errorf("Add: %v, %v", e, j.Err())
	}
	if e := j.Renew(bytesOf(15 * 512)); e != api.ErrSpace || j.Err() != api.OK {
		t.Errorf("Renew: %v, %v", e, j.Err())
	}
	if e := j.Renew(""); e != api.ErrPower || j.Err() != api.ErrPower {
		t.Errorf("Renew that fits: %v, %v", e, j.Err())
	}
	if e := j.Add(bytesOf(15 * 512)); e != api.ErrPower {
		t.Errorf("Add of one that is lost: %v", e)
	}
}

func TestNeed(t *testing.T) {
	for n, want := range map[int]int{
		0: 1, 1: 1, 451: 1, 452: 1, 453: 2, 512: 2, 963: 2, 964: 2, 965: 3, 1476: 3, 1477: 4,
		1 << 31: 1<<22 + 1, math.MaxInt: 1<<54 + 1, math.MaxInt - 58: 1<<54 + 1, math.MaxInt - 59: 1 << 54,
	} {
		if got := journal.Need(n); got != want {
			t.Errorf("Need of %d: %d, wanted %d", n, got, want)
		}
	}
	// There are no such texts.
	for _, n := range []int{-1, -60, -61, -1000, math.MinInt} {
		if got := journal.Need(n); got != 0 {
			t.Errorf("Need of %d: %d", n, got)
		}
	}
}

func TestNil(t *testing.T) {
	var j *journal.Journal
	for _, c := range []change{{text: ""}, {text: bytesOf(100000)}, {renew: true, text: ""}} {
		if e := c.of(j); e != api.ErrNil {
			t.Errorf("a change: %v", e)
		}
	}
	if j.Err() != api.ErrNil || j.Count() != 0 || j.Generation() != 0 || j.Left() != 0 {
		t.Error("something is told")
	}
	none, l, e := journal.Open(nil)
	if none != nil || len(l) != 0 || e != api.ErrNil {
		t.Errorf("Open of no disk: %v", e)
	}
}

// TestOpenPower: opening needs power, to read and to wipe.
func TestOpenPower(t *testing.T) {
	m := newModel(40)
	m.add("one")
	d := m.copied(t)
	d.Fuse(0)
	// There is nothing to wipe, so that no step is needed.
	opens(t, d, m.texts)
	if e := d.Barrier(); e != api.ErrPower {
		t.Fatal(e)
	}
	if j, l, e := journal.Open(d); j != nil || len(l) != 0 || e != api.ErrPower {
		t.Errorf("Open without power: %v", e)
	}
}

// TestOpenAnswersCopies: texts of one answer are its own.
func TestOpenAnswersCopies(t *testing.T) {
	m := newModel(40)
	m.add("one")
	m.add("two")
	d := m.copied(t)
	j, l, e := journal.Open(d)
	ok(t, "Open", e)
	l[0] = "another"
	ok(t, "Add", j.Add("three"))
	opens(t, d, []string{"one", "two", "three"})
}
