package journal_test

import (
	"math"
	"slices"
	"testing"

	"opaline/api"
	"opaline/disk"
	"opaline/journal"
)

// broken: a disk doesn't open, and nothing is changed on it.
func broken(t *testing.T, what string, d *disk.Disk) {
	t.Helper()
	image, steps := imageOf(d), d.Steps()
	if j, l, e := journal.Open(d); e != api.ErrBroken || j != nil || len(l) != 0 {
		t.Errorf("%s: %d texts, %v", what, len(l), e)
	}
	if d.Steps() != steps || !slices.Equal(imageOf(d), image) || len(d.Waits()) != 0 {
		t.Errorf("%s: the disk was changed", what)
	}
}

// sector is the only one of a short text.
func sector(s string) api.Block { return sectors(s)[0] }

// put: a disk's sectors are such.
func put(t *testing.T, d *disk.Disk, at int, l ...api.Block) {
	t.Helper()
	for i, b := range l {
		ok(t, "Write", d.Write(at+i, b))
	}
	ok(t, "Barrier", d.Barrier())
}

// turned is a sector of which a byte is another one.
func turned(b api.Block, place int) api.Block {
	b[place] ^= 0x10
	return b
}

// TestMarks: which mark counts. Each tells another count of the same three frames.
func TestMarks(t *testing.T) {
	one, two, three := sector(markText(1, 0, 0, 1)), sector(markText(2, 0, 0, 2)), sector(markText(3, 0, 0, 3))
	great := sector(markText(math.MaxUint64, 0, 0, 3))
	none := api.Block{}
	for _, c := range []struct {
		name          string
		first, second api.Block
		count         int // below 0: broken
	}{
		{"none", none, none, 0},
		{"the first sector's alone", two, none, 2},
		{"the second one's alone", none, one, 1},
		{"the second one's is higher", two, three, 3},
		{"the first one's is higher", two, one, 2},
		{"the first one's is spoilt", turned(two, 20), one, 1},
		{"the second one's is spoilt", two, turned(three, 20), 2},
		{"a higher number of eight bytes", one, great, 3},
		{"the first one's is higher in eight bytes", great, one, 3},
		{"one that is spoilt alone", none, turned(one, 0), 0},
		{"one that is spoilt alone, in the first sector", turned(two, 0), none, 0},
		{"one byte in a sector", none, turned(none, 511), 0},
		{"both are spoilt", turned(two, 75), turned(one, 75), -1},
		{"a byte in each sector", turned(none, 511), turned(none, 0), -1},
		{"no half", sector(markText(2, 0, 2, 2)), one, 1},
		{"no half, of eight bytes", sector(markText(2, 0, 1<<32, 2)), one, 1},
		{"no half, in both", sector(markText(2, 0, 2, 2)), sector(markText(1, 0, math.MaxUint64, 0)), -1},
		{"another number behind", sector(markText(2, 0, 0, 2)[:68] + eight(1)), one, 1},
		{"another number ahead", sector("OPMK" + eight(3) + markText(2, 0, 0, 2)[12:]), one, 1},
		{"another word", sector("OPFR" + markText(2, 0, 0, 2)[4:]), one, 1},
		{"something behind", sector(markText(2, 0, 0, 2) + "\x01"), one, 1},
		{"something in the last byte", turned(two, 511), one, 1},
		{"a frame", sector(frameText(0, 0, "")), one, 1},
		{"a number of 0", sector(markText(0, 0, 0, 1)), none, 1},
	} {
		m := newModel(40)
		for _, text := range []string{"a", "b", "c"} {
			m.add(text)
		}
		m.image[0], m.image[1] = c.first, c.second
		d := m.copied(t)
		if c.count < 0 {
			broken(t, c.name, d)
			continue
		}
		j, l, e := journal.Open(d)
		if e != api.OK || !slices.Equal(l, []string{"a", "b", "c"}[:c.count]) || j.Count() != c.count || j.Left() != 19-c.count {
			t.Errorf("%s: %q, %v", c.name, l, e)
		}
		// The frames behind those that count are wiped, the marks aren't.
		m.wipe(0, c.count)
		if !slices.Equal(imageOf(d), m.image) || len(d.Waits()) != 0 {
			t.Errorf("%s: the disk isn't as told", c.name)
		}
	}
}

// TestMarkAll: where any byte of one mark is turned, the other one counts.
func TestMarkAll(t *testing.T) {
	m := newModel(32)
	m.add("one")
	m.add("two")
	for at := range 2 {
		for place := range 512 {
			d := m.copied(t)
			d.Turn(at, place, byte(1+place%255))
			opens(t, d, []string{"one", "two"})
			other := 1 - at
			d.Turn(other, (place*7)%512, 0x80)
			broken(t, "both marks", d)
		}
	}
}

// TestNextMark: what is added behind a fallen mark is written in the sector of its own number.
func TestNextMark(t *testing.T) {
	for at := range 2 {
		m := newModel(32)
		m.add("one")
		d := m.copied(t)
		d.Turn(at, 9, 1)
		j := opens(t, d, []string{"one"})
		// Mark 2 stood in sector 0, mark 1 in sector 1: what is left is the other one.
		m.number = uint64(1 + at)
		m.image[at] = d.Lasts(at)
		ok(t, "Add", j.Add("two"))
		m.add("two")
		m.alike(t, d, j)
		opens(t, d, []string{"one", "two"})
	}
}

// crafted is a disk of 40 sectors with marks of that generation and count, and something in its second half.
func crafted(t *testing.T, generation, count uint64, from int, l ...api.Block) *disk.Disk {
	t.Helper()
	d := newModel(40).copied(t)
	put(t, d, 0, sector(markText(6, generation, 1, count)), sector(markText(5, generation, 1, count)))
	put(t, d, 21+from, l...)
	return d
}

func TestFramesWrong(t *testing.T) {
	fine := sectors(frameText(7, 0, bytesOf(1000)))
	opens(t, crafted(t, 7, 1, 0, fine...), []string{bytesOf(1000)})
	next := sectors(frameText(7, 1, "next"))
	opens(t, crafted(t, 7, 2, 0, append(slices.Clone(fine), next...)...), []string{bytesOf(1000), "next"})
	lengthOf := func(n uint64, text string) []api.Block {
		s := "OPFR" + eight(7) + eight(0) + eight(n)
		return sectors(s + short(s+text) + text)
	}
	most := uint64(19*512 - 60)
	for name, d := range map[string]*disk.Disk{
		"none":                      crafted(t, 7, 1, 0),
		"one, and then none":        crafted(t, 7, 2, 0, fine...),
		"very many":                 crafted(t, 7, math.MaxUint64, 0, append(slices.Clone(fine), next...)...),
		"2^32":                      crafted(t, 7, 1<<32, 0),
		"2^63":                      crafted(t, 7, 1<<63, 0),
		"not at the beginning":      crafted(t, 7, 1, 1, fine...),
		"the second one isn't next": crafted(t, 7, 2, 0, append(append(slices.Clone(fine), api.Block{}), next...)...),
		"an older generation":       crafted(t, 8, 1, 0, fine...),
		"a later generation":        crafted(t, 6, 1, 0, fine...),
		"another number":            crafted(t, 7, 1, 0, next...),
		"a number twice":            crafted(t, 7, 2, 0, append(slices.Clone(fine), fine...)...),
		"another word":              crafted(t, 7, 1, 0, sectors("OPMK"+frameText(7, 0, "x")[4:])...),
		"a mark":                    crafted(t, 7, 1, 0, sectors(markText(7, 7, 1, 1))...),
		"a longer one":              crafted(t, 7, 1, 0, lengthOf(4, "abc")...),
		"a shorter one":             crafted(t, 7, 1, 0, lengthOf(2, "abc")...),
		"a sector more":             crafted(t, 7, 1, 0, lengthOf(453, "abc")...),
		"all but the half":          crafted(t, 7, 1, 0, lengthOf(most, "abc")...),
		"past the half":             crafted(t, 7, 1, 0, lengthOf(most+1, "abc")...),
		"as many as the half":       crafted(t, 7, 1, 0, lengthOf(19*512, "abc")...),
		"2^31 bytes":                crafted(t, 7, 1, 0, lengthOf(1<<31, "abc")...),
		"2^63 bytes":                crafted(t, 7, 1, 0, lengthOf(1<<63, "abc")...),
		"2^63 - 1 bytes":            crafted(t, 7, 1, 0, lengthOf(1<<63-1, "abc")...),
		"2^64 - 1 bytes":            crafted(t, 7, 1, 0, lengthOf(math.MaxUint64, "abc")...),
		"2^64 - 60 bytes":           crafted(t, 7, 1, 0, lengthOf(math.MaxUint64-59, "abc")...),
	} {
		broken(t, name, d)
	}
	// Each byte of a frame counts, those behind its text too.
	for at := range fine {
		for place := range 512 {
			d := crafted(t, 7, 1, 0, fine...)
			d.Turn(21+at, place, byte(1+place%255))
			broken(t, "a turned frame", d)
		}
	}
}

// TestHalfEnds: a frame that is whole, but not within its half.
func TestHalfEnds(t *testing.T) {
	m := newModel(40)
	m.add(bytesOf(18*512 - 60))
	first := slices.Clone(m.image)
	// The second frame would need the second half's first sector.
	frame := sectors(frameText(0, 1, bytesOf(500)))
	d := diskOf(t, first)
	put(t, d, 20, frame...)
	put(t, d, 0, sector(markText(4, 0, 0, 2)))
	broken(t, "past the first half", d)
	frame = sectors(frameText(0, 1, "fits"))
	d = diskOf(t, first)
	put(t, d, 20, frame...)
	put(t, d, 0, sector(markText(4, 0, 0, 2)))
	j := opens(t, d, []string{bytesOf(18*512 - 60), "fits"})
	if j.Left() != 0 {
		t.Errorf("Left: %d", j.Left())
	}
	// A third one has no room at all.
	put(t, d, 21, sectors(frameText(0, 2, "x"))...)
	put(t, d, 0, sector(markText(6, 0, 0, 3)))
	broken(t, "behind the first half", d)
	// At the disk's end: the sector that is left is none of a half.
	d = newModel(33).copied(t)
	put(t, d, 0, sector(markText(2, 3, 1, 1)))
	put(t, d, 17, sectors(frameText(3, 0, bytesOf(15*512-60+1)))...)
	broken(t, "into the sector that is left", d)
}

// TestLeftSector: the odd one isn't wiped, nor written.
func TestLeftSector(t *testing.T) {
	m := newModel(33)
	for i := range m.image[2:] {
		m.image[2+i] = sector(bytesOf(400))
	}
	d := m.copied(t)
	j := opens(t, d, nil)
	m.wipe(0, 0)
	m.alike(t, d, j)
	ok(t, "Renew", j.Renew(bytesOf(15*512-60)))
	m.renew(bytesOf(15*512 - 60))
	m.alike(t, d, j)
	if d.Lasts(32) != sector(bytesOf(400)) {
		t.Error("the odd sector")
	}
}

// TestWipe: only what isn't all noughts is written, by rising places, and one barrier behind it; the other half stays.
func TestWipe(t *testing.T) {
	m := newModel(40)
	m.add("one")
	m.image[5], m.image[6] = sector("\x01"), api.Block{}
	m.image[12][511] = 9
	m.image[20] = sector(frameText(0, 1, "x"))
	m.image[21], m.image[39] = sector("other"), sector("half")
	image := slices.Clone(m.image)
	m.told()
	m.wipe(0, 1)
	steps := m.told()
	if len(steps) != 4 {
		t.Fatalf("%d steps", len(steps))
	}
	for n := range steps {
		d := diskOf(t, image)
		d.Fuse(n)
		if j, l, e := journal.Open(d); j != nil || len(l) != 0 || e != api.ErrPower {
			t.Errorf("Open with a fuse of %d: %v", n, e)
		}
		halfway(t, d, image, steps[:n])
		m.alike(t, d, opens(t, d, []string{"one"}))
	}
	d := diskOf(t, image)
	before := d.Steps()
	m.alike(t, d, opens(t, d, []string{"one"}))
	if d.Steps()-before != 4 {
		t.Errorf("%d steps", d.Steps()-before)
	}
}

// TestEnds: a number that can't rise any more isn't one that begins anew.
func TestEnds(t *testing.T) {
	for _, c := range []struct {
		number, generation uint64
		add, renew         api.Errno
	}{
		{math.MaxUint64, 3, api.ErrSpace, api.ErrSpace},
		{math.MaxUint64 - 1, 3, api.ErrSpace, api.ErrSpace},
		{math.MaxUint64 - 2, 3, api.OK, api.OK},
		{8, math.MaxUint64, api.OK, api.ErrSpace},
		{8, math.MaxUint64 - 1, api.OK, api.OK},
	} {
		for _, change := range []change{{text: "x"}, {renew: true, text: "x"}} {
			d := newModel(32).copied(t)
			put(t, d, int(c.number%2), sector(markText(c.number, c.generation, 0, 0)))
			j := opens(t, d, nil)
			steps := d.Steps()
			want := c.add
			if change.renew {
				want = c.renew
			}
			if e := change.of(j); e != want || j.Err() != api.OK {
				t.Errorf("number %x, generation %x: %v, wanted %v", c.number, c.generation, e, want)
			}
			if want == api.OK {
				opens(t, d, []string{"x"})
			} else if d.Steps() != steps || j.Generation() != c.generation || j.Count() != 0 {
				t.Errorf("number %x, generation %x: something was done", c.number, c.generation)
			}
		}
	}
}
