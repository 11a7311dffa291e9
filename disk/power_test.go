package disk_test

import (
	"math"
	"slices"
	"testing"

	"opaline/api"
	"opaline/disk"
)

// gone: nothing is done any more, and what can be told without power is as it was.
func gone(t *testing.T, d *disk.Disk) {
	t.Helper()
	steps, waits, lasts := d.Steps(), d.Waits(), d.Lasts(3)
	if !d.Down() {
		t.Error("the power is there")
	}
	for _, at := range []int{3, -1, 99} {
		if b, e := d.Read(at); e != api.ErrPower || b != (api.Block{}) {
			t.Errorf("Read of %d: %v", at, e)
		}
		if e := d.Write(at, block(99)); e != api.ErrPower {
			t.Errorf("Write to %d: %v", at, e)
		}
	}
	if e := d.Barrier(); e != api.ErrPower {
		t.Errorf("Barrier: %v", e)
	}
	if d.Steps() != steps || !slices.Equal(d.Waits(), waits) || d.Lasts(3) != lasts || d.Sectors() != 32 || !d.Down() {
		t.Errorf("behind errors: %d steps, %v", d.Steps(), d.Waits())
	}
}

func TestFuse(t *testing.T) {
	for n := range 8 {
		d := newDisk(t, 32)
		ok(t, "Write", d.Write(3, block(70)))
		ok(t, "Barrier", d.Barrier())
		d.Fuse(n)
		for i := range n {
			if i%3 == 2 {
				ok(t, "Barrier", d.Barrier())
			} else {
				ok(t, "Write", d.Write(i, block(i)))
			}
			// Neither reading nor a sector that isn't there is a step.
			if _, e := d.Read(3); e != api.OK {
				t.Errorf("Read with a fuse of %d: %v", n-i-1, e)
			}
			if e := d.Write(32, block(1)); e != api.ErrArg {
				t.Errorf("Write to no sector with a fuse of %d: %v", n-i-1, e)
			}
		}
		// The power goes with the step that may not be done, no sooner.
		if d.Down() || d.Steps() != n+2 {
			t.Errorf("a fuse of %d: %v, %d steps", n, d.Down(), d.Steps())
		}
		waits := d.Waits()
		if n%2 == 0 {
			if e := d.Write(5, block(5)); e != api.ErrPower {
				t.Errorf("Write behind a fuse of %d: %v", n, e)
			}
		} else if e := d.Barrier(); e != api.ErrPower {
			t.Errorf("Barrier behind a fuse of %d: %v", n, e)
		}
		if d.Steps() != n+2 || !slices.Equal(d.Waits(), waits) {
			t.Errorf("behind a fuse of %d: %d steps, %v", n, d.Steps(), d.Waits())
		}
		gone(t, d)
		// Another fuse brings no power, a crash does.
		d.Fuse(5)
		gone(t, d)
		d.Fuse(-1)
		gone(t, d)
		d.Fuse(0)
		d.Crash()
		if d.Down() {
			t.Errorf("down behind a crash")
		}
		for i := range 20 {
			ok(t, "Write behind a crash", d.Write(i, block(i)))
		}
		ok(t, "Barrier behind a crash", d.Barrier())
		if d.Steps() != n+2+21 {
			t.Errorf("Steps behind a crash: %d", d.Steps())
		}
	}
}

// TestFuseNoSector: that there is no such sector is named ahead of the fuse.
func TestFuseNoSector(t *testing.T) {
	d := newDisk(t, 32)
	d.Fuse(0)
	if e := d.Write(32, block(1)); e != api.ErrArg || d.Down() {
		t.Errorf("Write to no sector: %v, %v", e, d.Down())
	}
	if e := d.Write(31, block(1)); e != api.ErrPower || !d.Down() {
		t.Errorf("Write: %v, %v", e, d.Down())
	}
}

func TestFuseAnyNumber(t *testing.T) {
	for _, n := range []int{-1, -2, math.MinInt, math.MaxInt} {
		d := newDisk(t, 32)
		d.Fuse(n)
		for i := range 100 {
			ok(t, "Write", d.Write(i%32, block(i)))
			ok(t, "Barrier", d.Barrier())
		}
		if d.Steps() != 200 || d.Down() {
			t.Errorf("a fuse of %d: %d steps, %v", n, d.Steps(), d.Down())
		}
	}
	// The fuse that was set last counts.
	d := newDisk(t, 32)
	d.Fuse(1)
	d.Fuse(-1)
	ok(t, "Write", d.Write(0, block(0)))
	ok(t, "Write", d.Write(0, block(0)))
	d.Fuse(3)
	d.Fuse(1)
	ok(t, "Barrier", d.Barrier())
	if e := d.Barrier(); e != api.ErrPower {
		t.Errorf("Barrier: %v", e)
	}
}

// torn is a sector of which so many bytes are as they were written.
func torn(written, lasted api.Block, keep int) api.Block {
	for i := range lasted {
		if i < keep {
			lasted[i] = written[i]
		}
	}
	return lasted
}

func TestCrash(t *testing.T) {
	for keep, kept := range map[int]int{
		0: 0, 1: 1, 2: 2, 255: 255, 256: 256, 511: 511, 512: 512,
		513: 512, 1024: 512, 1 << 32: 512, 1<<32 + 1: 512, math.MaxInt: 512,
		-1: 0, -512: 0, math.MinInt: 0,
	} {
		d := newDisk(t, 32)
		ok(t, "Write", d.Write(7, block(1)))
		ok(t, "Barrier", d.Barrier())
		ok(t, "Write", d.Write(7, block(2)))
		ok(t, "Write", d.Write(7, block(3)))
		ok(t, "Write", d.Write(9, block(4)))
		d.Crash(disk.Fate{Keep: keep})
		want := torn(block(3), block(1), kept)
		holds(t, d, 7, want, want)
		holds(t, d, 9, api.Block{}, api.Block{})
		if len(d.Waits()) != 0 || d.Steps() != 5 {
			t.Errorf("behind a crash: %v, %d steps", d.Waits(), d.Steps())
		}
		// Behind it all lasts: one more has nothing to tear.
		d.Crash(disk.Fate{Keep: 512 - kept}, disk.Fate{Keep: 5})
		holds(t, d, 7, want, want)
	}
}

// TestCrashOrder: fates belong to the sectors that wait, rising, however they were written.
func TestCrashOrder(t *testing.T) {
	written := []int{31, 4, 12, 0, 20}
	rising := []int{0, 4, 12, 20, 31}
	for n := range 8 {
		d := newDisk(t, 32)
		for _, at := range written {
			ok(t, "Write", d.Write(at, block(at)))
		}
		ok(t, "Barrier", d.Barrier())
		for _, at := range written {
			ok(t, "Write", d.Write(at, block(at+100)))
		}
		fates := make([]disk.Fate, n, n+1)
		for i := range fates {
			fates[i].Keep = 100*i + 1
		}
		spare := fates[:n+1]
		spare[n].Keep = 77
		d.Crash(fates...)
		for i, at := range rising {
			keep := 0
			if i < n {
				keep = 100*i + 1
			}
			want := torn(block(at+100), block(at), keep)
			holds(t, d, at, want, want)
		}
		holds(t, d, 1, api.Block{}, api.Block{})
		for i, f := range spare[:n] {
			if f.Keep != 100*i+1 || spare[n].Keep != 77 {
				t.Errorf("fates were changed: %v", spare)
			}
		}
	}
}

func TestTurn(t *testing.T) {
	for _, place := range []int{0, 1, 255, 511} {
		for _, by := range []byte{1, 0x80, 0xff} {
			d := newDisk(t, 32)
			ok(t, "Write", d.Write(3, block(1)))
			ok(t, "Barrier", d.Barrier())
			ok(t, "Write", d.Write(3, block(2)))
			lasts, written := block(1), block(2)
			lasts[place] ^= by
			written[place] ^= by
			if !d.Turn(3, place, by) {
				t.Errorf("Turn at %d by %d", place, by)
			}
			holds(t, d, 3, written, lasts)
			holds(t, d, 2, api.Block{}, api.Block{})
			if got := d.Waits(); !slices.Equal(got, []int{3}) || d.Steps() != 3 {
				t.Errorf("behind Turn: %v, %d steps", got, d.Steps())
			}
			ok(t, "Barrier", d.Barrier())
			holds(t, d, 3, written, written)
			// Of one that doesn't wait: it is turned back, and still doesn't.
			if !d.Turn(3, place, by) || len(d.Waits()) != 0 {
				t.Errorf("Turn back at %d by %d", place, by)
			}
			holds(t, d, 3, block(2), block(2))
		}
	}
}

func TestTurnWrong(t *testing.T) {
	d := newDisk(t, 32)
	ok(t, "Write", d.Write(3, block(1)))
	for _, c := range []struct {
		at, place int
		by        byte
	}{
		{3, 1, 0}, {3, -1, 1}, {3, 512, 1}, {3, 513, 1}, {3, math.MaxInt, 1}, {3, math.MinInt, 1}, {3, 1 << 32, 1},
		{-1, 1, 1}, {32, 1, 1}, {math.MaxInt, 1, 1}, {math.MinInt, 1, 1}, {32, 512, 0}, {2, 1, 0},
	} {
		if d.Turn(c.at, c.place, c.by) {
			t.Errorf("Turn of %d, %d by %d", c.at, c.place, c.by)
		}
	}
	for at := range 32 {
		read := api.Block{}
		if at == 3 {
			read = block(1)
		}
		holds(t, d, at, read, api.Block{})
	}
}

// TestTurnDown: a byte can be turned without power, and a fuse doesn't burn by it.
func TestTurnDown(t *testing.T) {
	d := newDisk(t, 32)
	ok(t, "Write", d.Write(3, block(1)))
	d.Fuse(0)
	if !d.Turn(3, 0, 1) || d.Down() {
		t.Error("Turn with a fuse of 0")
	}
	if e := d.Barrier(); e != api.ErrPower {
		t.Errorf("Barrier: %v", e)
	}
	if !d.Turn(3, 1, 1) || !d.Down() {
		t.Error("Turn without power")
	}
	d.Crash(disk.Fate{Keep: 1})
	want := api.Block{block(1)[0] ^ 1, 1}
	holds(t, d, 3, want, want)
}

// TestCrashBytes: behind a crash each byte is what lasted, or what was written last, wherever the power goes.
func TestCrashBytes(t *testing.T) {
	state := uint64(1)
	next := func(n int) int {
		state = state*6364136223846793005 + 1442695040888963407
		return int(state>>33) % n
	}
	d := newDisk(t, 32)
	lasts, written := map[int]api.Block{}, map[int]api.Block{}
	for i := range 3000 {
		switch at := next(32); next(8) {
		default:
			if e := d.Write(at, block(i)); e == api.OK {
				written[at] = block(i)
			}
		case 5:
			if e := d.Barrier(); e == api.OK {
				lasts, written = all(lasts, written), map[int]api.Block{}
			}
		case 6:
			d.Fuse(next(6) - 1)
		case 7:
			fates := make([]disk.Fate, next(6))
			for i := range fates {
				fates[i].Keep = next(600) - 40
			}
			d.Crash(fates...)
			lasts, written = crashed(t, d, lasts, written), map[int]api.Block{}
		}
		there := all(lasts, written)
		for at := range 32 {
			if d.Lasts(at) != lasts[at] {
				t.Fatalf("step %d: sector %d lasts otherwise", i, at)
			}
			if b, e := d.Read(at); e == api.OK && b != there[at] {
				t.Fatalf("step %d: sector %d is read otherwise", i, at)
			}
		}
	}
}

// all is what lasts, and over it what was written.
func all(lasts, written map[int]api.Block) map[int]api.Block {
	out := map[int]api.Block{}
	for at, b := range lasts {
		out[at] = b
	}
	for at, b := range written {
		out[at] = b
	}
	return out
}

// crashed is what a disk has behind a crash, if each byte may be there.
func crashed(t *testing.T, d *disk.Disk, lasts, written map[int]api.Block) map[int]api.Block {
	t.Helper()
	out := map[int]api.Block{}
	for at := range 32 {
		b := d.Lasts(at)
		w, waited := written[at]
		for i := range b {
			if b[i] != lasts[at][i] && !(waited && b[i] == w[i]) {
				t.Fatalf("sector %d, byte %d is neither", at, i)
			}
		}
		out[at] = b
	}
	if d.Down() || len(d.Waits()) != 0 {
		t.Fatal("behind a crash it is down, or something waits")
	}
	return out
}
