package chain_test

import (
	"crypto/sha512"
	"math"
	"math/rand"
	"slices"
	"strings"
	"testing"

	"opaline/api"
	"opaline/chain"
)

// linked is a head with a text more, by the library.
func linked(last, text string) string {
	sum := sha512.Sum512([]byte("OPAL" + last + text))
	return string(sum[:])
}

func nothing() string { return strings.Repeat("\x00", 64) }

func TestFirst(t *testing.T) {
	if chain.First() != nothing() {
		t.Errorf("First: %x", chain.First())
	}
	var c chain.Chain
	if c.Head() != nothing() || c.Len() != 0 {
		t.Errorf("of nothing: %x, %d", c.Head(), c.Len())
	}
}

func TestLink(t *testing.T) {
	for _, last := range []string{"", "a", nothing(), strings.Repeat("h", 64), strings.Repeat("h", 200)} {
		for _, text := range []string{"", "b", "text", strings.Repeat("t", 300)} {
			if got := chain.Link(last, text); got != linked(last, text) {
				t.Errorf("Link(%q, %q): %x", last, text, got)
			}
		}
	}
}

// grown is a chain of n entries, with their texts.
func grown(t *testing.T, n int) (chain.Chain, []string) {
	t.Helper()
	var c chain.Chain
	var texts []string
	for i := range n {
		next, entry, e := c.Add(uint64(i/2), i%11+1, strings.Repeat("n", i%65), strings.Repeat("o", i%256))
		text, wrong := entry.Text()
		if e != api.OK || wrong != api.OK {
			t.Fatal(i, e, wrong)
		}
		c, texts = next, append(texts, text)
	}
	return c, texts
}

func TestAdd(t *testing.T) {
	var c chain.Chain
	head := nothing()
	for i := range 300 {
		want := chain.Entry{Seq: uint64(i), Tick: uint64(i) * 3, Kind: i%11 + 1, Name: strings.Repeat("n", i%65), Note: strings.Repeat("o", i%256)}
		next, entry, e := c.Add(want.Tick, want.Kind, want.Name, want.Note)
		if e != api.OK || entry != want {
			t.Fatalf("Add %d: %+v, %v", i, entry, e)
		}
		if c.Len() != uint64(i) || c.Head() != head {
			t.Fatalf("Add %d changed the chain ahead", i)
		}
		head = linked(head, written(want))
		if next.Len() != uint64(i)+1 || next.Head() != head {
			t.Fatalf("behind Add %d: %d, %x", i, next.Len(), next.Head())
		}
		c = next
	}
}

func TestAddWrong(t *testing.T) {
	c, _ := grown(t, 3)
	long, note := strings.Repeat("n", 65), strings.Repeat("o", 256)
	for _, w := range []struct {
		kind       int
		name, note string
		want       api.Errno
	}{
		{0, "", "", api.ErrKind},
		{12, "", "", api.ErrKind},
		{-1, "", "", api.ErrKind},
		{257, "", "", api.ErrKind},
		{0, long, note, api.ErrKind},
		{1, long, "", api.ErrLong},
		{11, "", note, api.ErrLong},
	} {
		next, entry, e := c.Add(1, w.kind, w.name, w.note)
		if e != w.want || entry != (chain.Entry{}) || next != (chain.Chain{}) {
			t.Errorf("Add of kind %d: %+v, %v", w.kind, entry, e)
		}
	}
	if c.Len() != 3 {
		t.Error("what was refused changed the chain")
	}
}

func TestResume(t *testing.T) {
	c, _ := grown(t, 5)
	r, e := chain.Resume(c.Len(), c.Head())
	if e != api.OK || r != c {
		t.Fatalf("Resume: %v", e)
	}
	one, x, _ := c.Add(7, 1, "a", "b")
	two, y, _ := r.Add(7, 1, "a", "b")
	if one != two || x != y {
		t.Error("what is added to one that goes on")
	}
	if r, e := chain.Resume(0, nothing()); e != api.OK || r != (chain.Chain{}) {
		t.Errorf("Resume of nothing: %v", e)
	}
	// A head of noughts may be that of entries: nothing is told of which.
	for _, n := range []uint64{1, 2, math.MaxUint64} {
		for _, head := range []string{nothing(), c.Head(), strings.Repeat("\xff", 64)} {
			if r, e := chain.Resume(n, head); e != api.OK || r.Len() != n || r.Head() != head {
				t.Errorf("Resume(%d, %x): %d, %v", n, head, r.Len(), e)
			}
		}
	}
}

func TestResumeWrong(t *testing.T) {
	c, _ := grown(t, 5)
	for _, w := range []struct {
		n    uint64
		head string
	}{
		{0, c.Head()},
		{0, ""},
		{1, ""},
		{5, c.Head()[:63]},
		{5, c.Head() + "\x00"},
		{0, nothing()[:63]},
		{0, nothing() + "\x00"},
		{0, nothing()[:63] + "\x01"},
		{1, strings.Repeat("h", 128)},
	} {
		if r, e := chain.Resume(w.n, w.head); e != api.ErrForm || r != (chain.Chain{}) {
			t.Errorf("Resume(%d, %x): %v", w.n, w.head, e)
		}
	}
}

// TestLastSeq: behind the last number there is none, and it doesn't go round.
func TestLastSeq(t *testing.T) {
	c, _ := chain.Resume(math.MaxUint64-1, strings.Repeat("h", 64))
	for _, seq := range []uint64{math.MaxUint64 - 1, math.MaxUint64, math.MaxUint64} {
		next, entry, e := c.Add(1, 2, "n", "")
		if e != api.OK || entry.Seq != seq || next.Len() != math.MaxUint64 || next.Head() != linked(c.Head(), written(entry)) {
			t.Errorf("Add at %x: %+v, %x, %v", c.Len(), entry, next.Len(), e)
		}
		c = next
	}
}

// verify: what Verify answers, of a list that it leaves as it is.
func verify(t *testing.T, what, head string, n int, want api.Errno, l ...string) {
	t.Helper()
	spare := append(slices.Clone(l), "spare")
	got, e := chain.Verify(head, spare[:len(l)]...)
	if got != n || e != want {
		t.Errorf("%s: %d, %v; wanted %d, %v", what, got, e, n, want)
	}
	if !slices.Equal(spare, append(slices.Clone(l), "spare")) {
		t.Errorf("%s: the list is changed", what)
	}
}

func TestVerify(t *testing.T) {
	verify(t, "nothing", nothing(), 0, api.OK)
	for _, n := range []int{1, 2, 3, 20, 300} {
		c, texts := grown(t, n)
		verify(t, "all", c.Head(), n, api.OK, texts...)
	}
}

func TestVerifyHeads(t *testing.T) {
	c, texts := grown(t, 4)
	verify(t, "nothing, by another head", c.Head(), 0, api.ErrChain)
	verify(t, "nothing, by no head", "", 0, api.ErrChain)
	verify(t, "all, by First", nothing(), 4, api.ErrChain, texts...)
	verify(t, "all, by no head", "", 4, api.ErrChain, texts...)
	verify(t, "all, by a head that is too short", c.Head()[:63], 4, api.ErrChain, texts...)
	verify(t, "all, by a head that is too long", c.Head()+"\x00", 4, api.ErrChain, texts...)
	verify(t, "one less", c.Head(), 3, api.ErrChain, texts[:3]...)
	next, entry, _ := c.Add(1, 1, "", "")
	more, _ := entry.Text()
	verify(t, "one more", c.Head(), 5, api.ErrChain, append(slices.Clone(texts), more)...)
	verify(t, "one too few", next.Head(), 4, api.ErrChain, texts...)
}

// TestVerifyPlaces: the first one that isn't as it should be is told, whatever stands behind.
func TestVerifyPlaces(t *testing.T) {
	c, texts := grown(t, 6)
	for i := range texts {
		l := slices.Clone(texts)
		l[i] = texts[i][:len(texts[i])-1]
		verify(t, "no entry's", c.Head(), i, api.ErrForm, l...)
		l[i] = ""
		verify(t, "an empty one", c.Head(), i, api.ErrForm, l...)
		l[i] = texts[(i+1)%6]
		verify(t, "of another place", c.Head(), i, api.ErrOrder, l...)
		verify(t, "one left out", c.Head(), min(i, 5), leftOut(i), slices.Delete(slices.Clone(texts), i, i+1)...)
		verify(t, "one twice", c.Head(), i+1, api.ErrOrder, slices.Insert(slices.Clone(texts), i, texts[i])...)
	}
	verify(t, "no order, then no entry", c.Head(), 1, api.ErrOrder, texts[0], texts[2], "none", texts[3])
	verify(t, "no entry, then no order", c.Head(), 1, api.ErrForm, texts[0], "none", texts[1], texts[3])
	far := written(chain.Entry{Seq: math.MaxUint64, Kind: 1})
	verify(t, "a great number", c.Head(), 0, api.ErrOrder, far)
}

// leftOut: without its last one a chain is whole, but another one.
func leftOut(i int) api.Errno {
	if i == 5 {
		return api.ErrChain
	}
	return api.ErrOrder
}

// TestTurned: no byte of a chain's texts is turned unseen, and none is left out, or laid between.
func TestTurned(t *testing.T) {
	c, texts := grown(t, 8)
	random := rand.New(rand.NewSource(19))
	for i, text := range texts {
		for place := range len(text) {
			b := []byte(text)
			b[place] ^= byte(1 + random.Intn(255))
			l := slices.Clone(texts)
			l[i] = string(b)
			if _, e := chain.Verify(c.Head(), l...); e == api.OK {
				t.Errorf("byte %d of text %d is turned unseen", place, i)
			}
		}
	}
	heads := map[string]int{}
	for n := range 40 {
		c, _ := grown(t, n)
		heads[c.Head()]++
	}
	if len(heads) != 40 {
		t.Error("two chains have one head")
	}
}
