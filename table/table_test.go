package table_test

import (
	"math"
	"math/rand"
	"slices"
	"testing"

	"opaline/api"
	"opaline/table"
)

// made is a table that may be.
func made[T any](t *testing.T, most int) *table.Table[T] {
	t.Helper()
	x, e := table.New[T](most)
	if e != api.OK || x == nil {
		t.Fatalf("New(%d): %v, %v", most, x, e)
	}
	return x
}

// opened: a thing has that number.
func opened[T any](t *testing.T, x *table.Table[T], thing T, want int) {
	t.Helper()
	if id, e := x.Open(thing); e != api.OK || id != want {
		t.Errorf("Open: %d, %v, wanted %d", id, e, want)
	}
}

// counts: so many there are, and so many more there may be.
func counts[T any](t *testing.T, x *table.Table[T], held, free int) {
	t.Helper()
	if x.Len() != held || x.Free() != free {
		t.Errorf("Len %d, Free %d, wanted %d, %d", x.Len(), x.Free(), held, free)
	}
}

func TestNew(t *testing.T) {
	for most := 1; most <= 255; most++ {
		x := made[string](t, most)
		counts(t, x, 0, most)
		for i := range most {
			opened(t, x, "a", i+1)
			counts(t, x, i+1, most-i-1)
		}
		for range 2 {
			if id, e := x.Open("b"); e != api.ErrFull || id != 0 {
				t.Errorf("Open of one more than %d: %d, %v", most, id, e)
			}
		}
		counts(t, x, most, 0)
	}
	for _, most := range []int{math.MinInt, -256, -1, 0, 256, 257, 512, 1<<32 + 1, math.MaxInt} {
		if x, e := table.New[string](most); e != api.ErrArg || x != nil {
			t.Errorf("New(%d): %v, %v", most, x, e)
		}
	}
}

func TestExample(t *testing.T) {
	x := made[int](t, 1)
	opened(t, x, 7, 1)
	if id, e := x.Open(8); e != api.ErrFull || id != 0 {
		t.Errorf("Open of a second one: %d, %v", id, e)
	}
}

// TestLeast: the least number that none has is the next one's.
func TestLeast(t *testing.T) {
	x := made[string](t, 8)
	for i, thing := range []string{"a", "b", "c", "d", "e"} {
		opened(t, x, thing, i+1)
	}
	for _, id := range []int{4, 2, 1} {
		if _, e := x.Take(id); e != api.OK {
			t.Fatal(e)
		}
	}
	for thing, want := range []int{1, 2, 4, 6, 7, 8} {
		opened(t, x, string(rune('u'+thing)), want)
	}
	for id, want := range []string{"u", "v", "c", "w", "e", "x", "y", "z"} {
		if got, is := x.Look(id + 1); !is || got != want {
			t.Errorf("Look(%d): %q, %v", id+1, got, is)
		}
	}
}

func TestTakeOnce(t *testing.T) {
	x := made[string](t, 3)
	opened(t, x, "a", 1)
	opened(t, x, "b", 2)
	if got, e := x.Take(1); e != api.OK || got != "a" {
		t.Errorf("Take: %q, %v", got, e)
	}
	for range 2 {
		if got, e := x.Take(1); e != api.ErrNone || got != "" {
			t.Errorf("Take again: %q, %v", got, e)
		}
	}
	if got, is := x.Look(1); is || got != "" {
		t.Errorf("Look at what was taken: %q, %v", got, is)
	}
	counts(t, x, 1, 2)
	// Who has the number then is another one, and taken once likewise.
	opened(t, x, "c", 1)
	if got, e := x.Take(1); e != api.OK || got != "c" {
		t.Errorf("Take of another one: %q, %v", got, e)
	}
	if got, e := x.Take(1); e != api.ErrNone || got != "" {
		t.Errorf("Take of another one again: %q, %v", got, e)
	}
	if got, e := x.Take(2); e != api.OK || got != "b" {
		t.Errorf("Take of what stayed: %q, %v", got, e)
	}
}

func TestNoSuchNumber(t *testing.T) {
	x := made[string](t, 2)
	opened(t, x, "a", 1)
	for _, id := range []int{math.MinInt, -255, -1, 0, 2, 3, 255, 256, 257, 1<<32 + 1, math.MaxInt} {
		if got, e := x.Take(id); e != api.ErrNone || got != "" {
			t.Errorf("Take(%d): %q, %v", id, got, e)
		}
		if got, is := x.Look(id); is || got != "" {
			t.Errorf("Look(%d): %q, %v", id, got, is)
		}
	}
	counts(t, x, 1, 1)
}

// TestLook: looking takes nothing.
func TestLook(t *testing.T) {
	x := made[[2]int](t, 2)
	opened(t, x, [2]int{3, 4}, 1)
	for range 3 {
		if got, is := x.Look(1); !is || got != [2]int{3, 4} {
			t.Errorf("Look: %v, %v", got, is)
		}
	}
	counts(t, x, 1, 1)
}

// TestZeroThings: a thing that is its type's zero value has a number as others have.
func TestZeroThings(t *testing.T) {
	x := made[error](t, 2)
	opened(t, x, nil, 1)
	opened(t, x, nil, 2)
	if got, is := x.Look(2); !is || got != nil {
		t.Errorf("Look: %v, %v", got, is)
	}
	if _, e := x.Open(nil); e != api.ErrFull {
		t.Errorf("Open: %v", e)
	}
	if got, e := x.Take(1); e != api.OK || got != nil {
		t.Errorf("Take: %v, %v", got, e)
	}
	n := 0
	for id, got := range x.Each() {
		if id != 2 || got != nil {
			t.Errorf("Each: %d, %v", id, got)
		}
		n++
	}
	if n != 1 {
		t.Errorf("Each: %d", n)
	}
}

func TestClear(t *testing.T) {
	x := made[string](t, 3)
	x.Clear()
	counts(t, x, 0, 3)
	for range 3 {
		if _, e := x.Open("a"); e != api.OK {
			t.Fatal(e)
		}
	}
	x.Clear()
	counts(t, x, 0, 3)
	for id := range 4 {
		if got, e := x.Take(id); e != api.ErrNone || got != "" {
			t.Errorf("Take(%d) of none: %q, %v", id, got, e)
		}
	}
	for id := range x.Each() {
		t.Errorf("Each of none: %d", id)
	}
	opened(t, x, "b", 1)
}

// rows are what Each goes through.
func rows[T any](x *table.Table[T]) (ids []int, things []T) {
	for id, thing := range x.Each() {
		ids, things = append(ids, id), append(things, thing)
	}
	return ids, things
}

func TestEach(t *testing.T) {
	x := made[int](t, 255)
	each := x.Each()
	for range each {
		t.Error("Each of a new one")
	}
	for i := range 255 {
		opened(t, x, i*3, i+1)
	}
	for id := 1; id <= 255; id++ {
		if id%5 == 0 || id > 200 && id < 230 {
			x.Take(id)
		}
	}
	// What it goes through is what is there then, however often.
	for range 2 {
		last := 0
		n := 0
		for id, thing := range each {
			if id <= last || id%5 == 0 || id > 200 && id < 230 || thing != (id-1)*3 {
				t.Errorf("Each: %d, %d behind %d", id, thing, last)
			}
			last, n = id, n+1
		}
		if n != x.Len() {
			t.Errorf("Each: %d of %d", n, x.Len())
		}
	}
	x.Clear()
	if ids, _ := rows(x); len(ids) != 0 {
		t.Errorf("Each behind Clear: %v", ids)
	}
}

// TestEachLeft leaves it at each row, and goes through it within itself.
func TestEachLeft(t *testing.T) {
	x := made[string](t, 4)
	for _, thing := range []string{"a", "b", "c", "d"} {
		x.Open(thing)
	}
	x.Take(3)
	for n := 1; n <= 3; n++ {
		seen := ""
		for _, thing := range x.Each() {
			seen += thing
			if len(seen) == n {
				break
			}
		}
		if seen != "abd"[:n] {
			t.Errorf("Each, left at %d: %q", n, seen)
		}
	}
	seen := ""
	for _, one := range x.Each() {
		for _, two := range x.Each() {
			seen += one + two
		}
	}
	if seen != "aaabadbabbbddadbdd" {
		t.Errorf("Each within Each: %q", seen)
	}
}

func TestNil(t *testing.T) {
	var x *table.Table[string]
	if id, e := x.Open("a"); e != api.ErrNil || id != 0 {
		t.Errorf("Open: %d, %v", id, e)
	}
	for _, id := range []int{-1, 0, 1, 255} {
		if got, e := x.Take(id); e != api.ErrNil || got != "" {
			t.Errorf("Take: %q, %v", got, e)
		}
		if got, is := x.Look(id); is || got != "" {
			t.Errorf("Look: %q, %v", got, is)
		}
	}
	x.Clear()
	counts(t, x, 0, 0)
	for id := range x.Each() {
		t.Errorf("Each: %d", id)
	}
}

// TestApart: two tables have nothing of one another.
func TestApart(t *testing.T) {
	x, y := made[string](t, 2), made[string](t, 2)
	opened(t, x, "a", 1)
	opened(t, y, "b", 1)
	x.Take(1)
	if got, is := y.Look(1); !is || got != "b" {
		t.Errorf("Look: %q, %v", got, is)
	}
	y.Clear()
	opened(t, x, "c", 1)
	counts(t, x, 1, 1)
	counts(t, y, 0, 2)
}

// model is a table as a row of places, reckoned apart.
type model []*int

func (m model) open(thing int) (int, api.Errno) {
	for i := range m {
		if m[i] == nil {
			m[i] = &thing
			return i + 1, api.OK
		}
	}
	return 0, api.ErrFull
}

func (m model) look(id int) (int, bool) {
	if id < 1 || id > len(m) || m[id-1] == nil {
		return 0, false
	}
	return *m[id-1], true
}

func (m model) held() (ids, things []int) {
	for i, thing := range m {
		if thing != nil {
			ids, things = append(ids, i+1), append(things, *thing)
		}
	}
	return ids, things
}

// step does one thing to both, and says whether they answer the same.
func step(r *rand.Rand, x *table.Table[int], m model, thing int) bool {
	id := r.Intn(len(m)+3) - 1
	switch r.Intn(40) {
	case 0:
		x.Clear()
		clear(m)
		return true
	case 1, 2, 3, 4, 5, 6, 7, 8, 9, 10, 11, 12, 13, 14, 15, 16:
		got, e := x.Open(thing)
		want, wrong := m.open(thing)
		return got == want && e == wrong
	case 17, 18, 19, 20, 21, 22, 23, 24, 25, 26, 27, 28, 29, 30:
		got, e := x.Take(id)
		want, is := m.look(id)
		if is {
			m[id-1] = nil
		}
		return got == want && is == (e == api.OK) && is != (e == api.ErrNone)
	default:
		got, is := x.Look(id)
		want, there := m.look(id)
		return got == want && is == there
	}
}

func TestRandom(t *testing.T) {
	r := rand.New(rand.NewSource(24))
	for _, most := range []int{1, 2, 3, 8, 20, 255} {
		x, m := made[int](t, most), make(model, most)
		for i := range 20000 {
			if !step(r, x, m, i+1) {
				t.Fatalf("of %d, step %d: another answer", most, i)
			}
			if i%50 != 0 {
				continue
			}
			ids, things := rows(x)
			wantIDs, wantThings := m.held()
			if !slices.Equal(ids, wantIDs) || !slices.Equal(things, wantThings) {
				t.Fatalf("of %d, step %d: %v, wanted %v", most, i, ids, wantIDs)
			}
			counts(t, x, len(wantIDs), most-len(wantIDs))
		}
	}
}
