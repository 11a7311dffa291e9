package journal_test

import (
	"crypto/sha512"
	"encoding/binary"
	"math/rand"
	"slices"
	"testing"

	"opaline/api"
	"opaline/disk"
	"opaline/journal"
)

// step is one that a disk is asked for: a sector that is written, or a barrier.
type step struct {
	barrier bool
	at      int
	b       api.Block
}

// model is a journal as the chapter's words tell it, reckoned apart from the program.
type model struct {
	image                    []api.Block
	number, generation, half uint64
	used                     int
	texts                    []string
	steps                    []step // since they were told last
}

func newModel(sectors int) *model { return &model{image: make([]api.Block, sectors)} }

func (m *model) size() int { return (len(m.image) - 2) / 2 }

func (m *model) left() int { return m.size() - m.used }

func (m *model) write(at int, b api.Block) {
	m.image[at] = b
	m.steps = append(m.steps, step{at: at, b: b})
}

func (m *model) barrier() { m.steps = append(m.steps, step{barrier: true}) }

// told: the steps since it was asked last.
func (m *model) told() []step {
	l := m.steps
	m.steps = nil
	return l
}

func eight(n uint64) string { return string(binary.BigEndian.AppendUint64(nil, n)) }

func short(s string) string {
	sum := sha512.Sum512([]byte(s))
	return string(sum[:32])
}

// sectors are a text's, with noughts behind.
func sectors(s string) []api.Block {
	var l []api.Block
	for len(s) > 0 {
		var b api.Block
		s = s[copy(b[:], s):]
		l = append(l, b)
	}
	return l
}

func markText(number, generation, half, count uint64) string {
	s := "OPMK" + eight(number) + eight(generation) + eight(half) + eight(count)
	return s + short(s) + eight(number)
}

func frameText(generation, number uint64, text string) string {
	s := "OPFR" + eight(generation) + eight(number) + eight(uint64(len(text)))
	return s + short(s+text) + text
}

func (m *model) wipe(half uint64, from int) {
	wiped := false
	for i := from; i < m.size(); i++ {
		at := 2 + int(half)*m.size() + i
		if m.image[at] != (api.Block{}) {
			m.write(at, api.Block{})
			wiped = true
		}
	}
	if wiped {
		m.barrier()
	}
}

func (m *model) put(text string) {
	for _, b := range sectors(frameText(m.generation, uint64(len(m.texts)), text)) {
		m.write(2+int(m.half)*m.size()+m.used, b)
		m.used++
	}
	m.barrier()
	m.texts = append(slices.Clone(m.texts), text)
	for range 2 {
		m.number++
		m.write(int(m.number%2), sectors(markText(m.number, m.generation, m.half, uint64(len(m.texts))))[0])
		m.barrier()
	}
}

func (m *model) add(text string) { m.put(text) }

func (m *model) renew(text string) {
	m.half = 1 - m.half
	m.wipe(m.half, 0)
	m.generation, m.used, m.texts = m.generation+1, 0, nil
	m.put(text)
}

// copied is a disk where all lasts that the model has.
func (m *model) copied(t *testing.T) *disk.Disk {
	t.Helper()
	return diskOf(t, m.image)
}

func diskOf(t *testing.T, image []api.Block) *disk.Disk {
	t.Helper()
	d, e := disk.New(len(image))
	ok(t, "New", e)
	for at, b := range image {
		if b != (api.Block{}) {
			ok(t, "Write", d.Write(at, b))
		}
	}
	ok(t, "Barrier", d.Barrier())
	return d
}

// imageOf is all that lasts on a disk.
func imageOf(d *disk.Disk) []api.Block {
	var l []api.Block
	for at := range d.Sectors() {
		l = append(l, d.Lasts(at))
	}
	return l
}

func ok(t *testing.T, what string, e api.Errno) {
	t.Helper()
	if e != api.OK {
		t.Fatalf("%s: %v", what, e)
	}
}

// opens: a disk's journal has these texts.
func opens(t *testing.T, d *disk.Disk, texts []string) *journal.Journal {
	t.Helper()
	j, l, e := journal.Open(d)
	if e != api.OK || !slices.Equal(l, texts) {
		t.Fatalf("Open: %d texts, %v, wanted %d", len(l), e, len(texts))
	}
	return j
}

// alike: the journal tells what the model does, and all that the model wrote lasts.
func (m *model) alike(t *testing.T, d *disk.Disk, j *journal.Journal) {
	t.Helper()
	if j.Count() != len(m.texts) || j.Generation() != m.generation || j.Left() != m.left() || j.Err() != api.OK {
		t.Fatalf("Count %d, Generation %d, Left %d, %v; wanted %d, %d, %d",
			j.Count(), j.Generation(), j.Left(), j.Err(), len(m.texts), m.generation, m.left())
	}
	if len(d.Waits()) != 0 {
		t.Fatalf("sectors wait: %v", d.Waits())
	}
	if !slices.Equal(imageOf(d), m.image) {
		t.Fatal("the disk isn't as told")
	}
}

// change is what a journal is asked for.
type change struct {
	renew bool
	text  string
}

func (c change) of(j *journal.Journal) api.Errno {
	if c.renew {
		return j.Renew(c.text)
	}
	return j.Add(c.text)
}

func (c change) ofModel(m *model) {
	if c.renew {
		m.renew(c.text)
	} else {
		m.add(c.text)
	}
}

// bytesOf are such as neighbours are unlike.
func bytesOf(n int) string {
	s := make([]byte, n)
	for i := range s {
		s[i] = byte(i*7 + i>>8 + n)
	}
	return string(s)
}

// changes: of all lengths at whose ends something is another thing, and with texts that look like sectors of the journal.
func changes() []change {
	mark := sectors(markText(99, 0, 0, 0))[0]
	frame := sectors(frameText(0, 1, "no text"))[0]
	return []change{
		{text: ""},
		{text: "one"},
		{text: bytesOf(452)},
		{text: bytesOf(453)},
		{text: string(mark[:])},
		{renew: true, text: bytesOf(700)},
		{text: string(make([]byte, 600))},
		{text: "OPFR" + string(frame[:]) + string(frame[:])},
		{renew: true, text: ""},
		{renew: true, text: bytesOf(2000)},
		{text: bytesOf(964)},
		{text: bytesOf(965)},
		{renew: true, text: "last"},
	}
}

// chance draws the same each time.
func chance(seed int64) *rand.Rand { return rand.New(rand.NewSource(seed)) }
