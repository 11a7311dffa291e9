package disk_test

import (
	"math"
	"slices"
	"testing"

	"opaline/api"
	"opaline/disk"
)

// block is a sector's bytes, of which neighbours are unlike; those of other numbers are unlike everywhere.
func block(n int) api.Block {
	var b api.Block
	for i := range b {
		b[i] = byte(i*7+i>>8) + byte(n)
	}
	return b
}

func newDisk(t *testing.T, sectors int) *disk.Disk {
	t.Helper()
	d, e := disk.New(sectors)
	if e != api.OK || d == nil {
		t.Fatalf("New of %d: %v", sectors, e)
	}
	return d
}

// ok: no error is answered.
func ok(t *testing.T, what string, e api.Errno) {
	t.Helper()
	if e != api.OK {
		t.Fatalf("%s: %v", what, e)
	}
}

// holds: a sector is read so, and lasts so.
func holds(t *testing.T, d *disk.Disk, at int, read, lasts api.Block) {
	t.Helper()
	if b, e := d.Read(at); e != api.OK || b != read {
		t.Errorf("Read of %d: %x.., %v, wanted %x..", at, b[:4], e, read[:4])
	}
	if b := d.Lasts(at); b != lasts {
		t.Errorf("Lasts of %d: %x.., wanted %x..", at, b[:4], lasts[:4])
	}
}

func TestNew(t *testing.T) {
	for _, n := range []int{32, 33, 100, 2047, 2048} {
		d := newDisk(t, n)
		if d.Sectors() != n || d.Down() || d.Steps() != 0 || len(d.Waits()) != 0 {
			t.Errorf("New of %d: %d sectors, %v, %d steps, %v", n, d.Sectors(), d.Down(), d.Steps(), d.Waits())
		}
		for at := range n {
			holds(t, d, at, api.Block{}, api.Block{})
		}
	}
}

func TestNewWrong(t *testing.T) {
	for _, n := range []int{31, 0, -1, -32, 2049, 4096, 1<<32 + 32, math.MaxInt, math.MinInt} {
		if d, e := disk.New(n); e != api.ErrArg || d != nil {
			t.Errorf("New of %d: %v", n, e)
		}
	}
}

func TestWrite(t *testing.T) {
	d := newDisk(t, 32)
	for at := range 32 {
		ok(t, "Write", d.Write(at, block(at)))
	}
	for at := range 32 {
		holds(t, d, at, block(at), api.Block{})
	}
	ok(t, "Barrier", d.Barrier())
	for at := range 32 {
		holds(t, d, at, block(at), block(at))
	}
	// What was written last counts.
	ok(t, "Write", d.Write(31, block(50)))
	ok(t, "Write", d.Write(31, block(51)))
	holds(t, d, 31, block(51), block(31))
	holds(t, d, 30, block(30), block(30))
	ok(t, "Barrier", d.Barrier())
	holds(t, d, 31, block(51), block(51))
	if d.Steps() != 36 {
		t.Errorf("Steps: %d", d.Steps())
	}
}

func TestWaits(t *testing.T) {
	d := newDisk(t, 2048)
	for _, at := range []int{2047, 5, 0, 1000, 5, 3} {
		ok(t, "Write", d.Write(at, block(at)))
	}
	if got := d.Waits(); !slices.Equal(got, []int{0, 3, 5, 1000, 2047}) {
		t.Errorf("Waits: %v", got)
	}
	// An answer is its own memory.
	d.Waits()[0] = 77
	if got := d.Waits(); !slices.Equal(got, []int{0, 3, 5, 1000, 2047}) {
		t.Errorf("Waits, an answer changed: %v", got)
	}
	ok(t, "Barrier", d.Barrier())
	if got := d.Waits(); len(got) != 0 {
		t.Errorf("Waits behind a barrier: %v", got)
	}
	// A sector waits too that is written with what is there.
	ok(t, "Write", d.Write(5, block(5)))
	ok(t, "Write", d.Write(6, api.Block{}))
	if got := d.Waits(); !slices.Equal(got, []int{5, 6}) {
		t.Errorf("Waits of what was there: %v", got)
	}
}

func TestNoSector(t *testing.T) {
	d := newDisk(t, 40)
	ok(t, "Write", d.Write(0, block(1)))
	ok(t, "Write", d.Write(39, block(2)))
	for _, at := range []int{-1, 40, 41, 2048, -40, 1 << 32, 1<<32 + 1, math.MaxInt, math.MinInt} {
		if b, e := d.Read(at); e != api.ErrArg || b != (api.Block{}) {
			t.Errorf("Read of %d: %v", at, e)
		}
		if e := d.Write(at, block(3)); e != api.ErrArg {
			t.Errorf("Write to %d: %v", at, e)
		}
		if b := d.Lasts(at); b != (api.Block{}) {
			t.Errorf("Lasts of %d: %x", at, b[:4])
		}
		if d.Turn(at, 0, 1) {
			t.Errorf("Turn in %d", at)
		}
	}
	if got := d.Waits(); !slices.Equal(got, []int{0, 39}) || d.Steps() != 2 || d.Down() {
		t.Errorf("behind errors: %v, %d steps, %v", got, d.Steps(), d.Down())
	}
	holds(t, d, 0, block(1), api.Block{})
	holds(t, d, 39, block(2), api.Block{})
}

// TestCopies: what is answered is another one's memory, and so is what was handed in.
func TestCopies(t *testing.T) {
	d := newDisk(t, 32)
	b := block(1)
	ok(t, "Write", d.Write(3, b))
	b[0]++
	got, _ := d.Read(3)
	got[1]++
	ok(t, "Barrier", d.Barrier())
	last := d.Lasts(3)
	last[2]++
	holds(t, d, 3, block(1), block(1))
	other := newDisk(t, 32)
	holds(t, other, 3, api.Block{}, api.Block{})
}

func TestNil(t *testing.T) {
	var d *disk.Disk
	if b, e := d.Read(0); e != api.ErrNil || b != (api.Block{}) {
		t.Errorf("Read: %v", e)
	}
	if _, e := d.Read(-1); e != api.ErrNil {
		t.Errorf("Read of no sector: %v", e)
	}
	if e := d.Write(0, block(1)); e != api.ErrNil {
		t.Errorf("Write: %v", e)
	}
	if e := d.Write(-1, block(1)); e != api.ErrNil {
		t.Errorf("Write to no sector: %v", e)
	}
	if e := d.Barrier(); e != api.ErrNil {
		t.Errorf("Barrier: %v", e)
	}
	d.Fuse(0)
	d.Crash()
	d.Crash(disk.Fate{Keep: 3})
	if d.Sectors() != 0 || d.Down() || d.Steps() != 0 || len(d.Waits()) != 0 || d.Turn(0, 0, 1) || d.Lasts(0) != (api.Block{}) {
		t.Error("something is told")
	}
}
