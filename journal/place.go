package journal

import (
	"opaline/api"
	"opaline/part"
	"opaline/sha"
)

const (
	frameWord = "OPFR"
	sumSize   = 32
	// frameFront is how many bytes of a frame stand ahead of its text: the word, three numbers, the sum.
	frameFront = len(frameWord) + 3*8 + sumSize
)

// place is where the next frame of a half is to stand.
type place struct {
	generation, half uint64
	count            uint64 // frames ahead of it
	used             int    // sectors ahead of it
}

// anew: the beginning of the other half, of the next generation.
func (p place) anew() place { return place{generation: p.generation + 1, half: 1 - p.half} }

// behind: where the one behind a text's frame is to stand.
func (p place) behind(text string) place {
	p.count++
	p.used += Need(len(text))
	return p
}

// frame: a text's, as it is to stand there.
func (p place) frame(text string) []api.Block {
	front := frameWord + part.Eight(p.generation) + part.Eight(p.count) + part.Eight(uint64(len(text)))
	return blocks(front + sha.Short(sumSize, front, text) + text)
}

// Need: how many sectors a text needs.
func Need(n int) int {
	if n < 0 {
		return 0
	}
	// Whole sectors are put aside, so that the greatest int doesn't go round.
	return n/api.Sector + (n%api.Sector+frameFront+api.Sector-1)/api.Sector
}

// blocks: a text's sectors, with noughts behind it.
func blocks(s string) []api.Block {
	l := make([]api.Block, (len(s)+api.Sector-1)/api.Sector)
	for i := range l {
		copy(l[i][:], s[i*api.Sector:])
	}
	return l
}
