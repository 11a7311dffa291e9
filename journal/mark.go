package journal

import (
	"cmp"
	"slices"

	"opaline/api"
	"opaline/disk"
	"opaline/must"
	"opaline/part"
	"opaline/sha"
)

const (
	markWord = "OPMK"
	marks    = 2 // sectors of marks, ahead of the halves
	halves   = 2
)

// mark tells how many texts of which half count.
type mark struct{ number, generation, half, count uint64 }

// block: the mark's sector.
func (m mark) block() api.Block {
	number := part.Eight(m.number)
	front := markWord + number + part.Eight(m.generation) + part.Eight(m.half) + part.Eight(m.count)
	return blocks(front + sha.Short(sumSize, front) + number)[0]
}

// markOf: the one of a sector, if it is whole.
func markOf(b api.Block) (mark, bool) {
	r := part.Read(string(b[len(markWord):]))
	m := mark{number: r.Eight(), generation: r.Eight(), half: r.Eight(), count: r.Eight()}
	return m, m.half < halves && m.block() == b
}

// counting: the mark that does.
func counting(d *disk.Disk) mark {
	var whole []mark
	spoilt := 0
	for at := range marks {
		b := must.Have(d.Read(at))
		m, ok := markOf(b)
		if ok {
			whole = append(whole, m)
		} else if b != (api.Block{}) {
			spoilt++
		}
	}
	must.Hold(spoilt < marks, api.ErrBroken)
	if len(whole) == 0 {
		return mark{}
	}
	return slices.MaxFunc(whole, func(a, b mark) int { return cmp.Compare(a.number, b.number) })
}
