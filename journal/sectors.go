package journal

import (
	"slices"

	"opaline/api"
	"opaline/must"
	"opaline/part"
)

// size: how many sectors a half has.
func (j *Journal) size() int { return (j.disk.Sectors() - marks) / halves }

// sector: the disk's, of one of a half.
func (j *Journal) sector(half uint64, i int) int { return marks + int(half)*j.size() + i }

// text: the one whose frame stands where the journal ends so far.
func (j *Journal) text() string {
	first := j.read(j.end.used)
	r := part.Read(string(first[len(frameWord)+2*8:]))
	n := r.Eight()
	// Looked at ahead of any reckoning: the number may be any.
	must.Hold(n <= uint64(j.Left()*api.Sector), api.ErrBroken)
	frame := []api.Block{first}
	for len(frame) < Need(int(n)) {
		frame = append(frame, j.read(j.end.used+len(frame)))
	}
	text := joined(frame)[frameFront:][:n]
	must.Hold(slices.Equal(frame, j.end.frame(text)), api.ErrBroken)
	return text
}

// read: a sector of the half, which must be within it.
func (j *Journal) read(i int) api.Block {
	must.Hold(i < j.size(), api.ErrBroken)
	return must.Have(j.disk.Read(j.sector(j.end.half, i)))
}

// joined: the bytes of sectors.
func joined(l []api.Block) string {
	var s []byte
	for _, b := range l {
		s = append(s, b[:]...)
	}
	return string(s)
}

// wipe: a half, from a place on.
func (j *Journal) wipe(p place) {
	wiped := false
	for i := p.used; i < j.size(); i++ {
		at := j.sector(p.half, i)
		if must.Have(j.disk.Read(at)) != (api.Block{}) {
			must.OK(j.disk.Write(at, api.Block{}))
			wiped = true
		}
	}
	if wiped {
		must.OK(j.disk.Barrier())
	}
}

// put: a text at a place, where the journal ends behind it.
func (j *Journal) put(p place, text string) {
	for i, b := range p.frame(text) {
		must.OK(j.disk.Write(j.sector(p.half, p.used+i), b))
	}
	must.OK(j.disk.Barrier())
	end := p.behind(text)
	m := mark{number: j.number, generation: end.generation, half: end.half, count: end.count}
	// Both marks tell the same then, so that one may be spoilt.
	for range marks {
		m.number++
		must.OK(j.disk.Write(int(m.number%marks), m.block()))
		must.OK(j.disk.Barrier())
	}
	j.number, j.end = m.number, end
}
