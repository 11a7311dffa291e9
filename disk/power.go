package disk

import "opaline/api"

// Fate is what becomes of a sector that waits.
type Fate struct{ Keep int }

// Fuse: so many steps more.
func (d *Disk) Fuse(n int) {
	if d != nil {
		d.fuse = n
	}
}

// Down: is the power gone?
func (d *Disk) Down() bool { return d != nil && d.down }

// Steps: how many were done.
func (d *Disk) Steps() int {
	if d == nil {
		return 0
	}
	return d.steps
}

// Crash: what waits is lost, or torn.
func (d *Disk) Crash(l ...Fate) {
	if d == nil {
		return
	}
	d.settle(kept(l))
	d.down, d.fuse = false, noFuse
}

// kept tells how many bytes the sectors keep that wait, by their place among those.
func kept(l []Fate) func(nth int) int {
	return func(nth int) int {
		if nth >= len(l) {
			return 0
		}
		return min(max(l[nth].Keep, 0), api.Sector)
	}
}

// settle: nothing waits any more; of each sector that did, as many bytes last as are kept.
func (d *Disk) settle(kept func(nth int) int) {
	for nth, at := range d.Waits() {
		written := d.waiting[at]
		copy(d.lasting[at][:], written[:kept(nth)])
	}
	clear(d.waiting)
}

// Turn: a byte is another one.
func (d *Disk) Turn(at, place int, by byte) bool {
	if !d.has(at) || place < 0 || place >= api.Sector || by == 0 {
		return false
	}
	d.lasting[at][place] ^= by
	if b, ok := d.waiting[at]; ok {
		b[place] ^= by
		d.waiting[at] = b
	}
	return true
}
