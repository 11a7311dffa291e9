package wire_test

import (
	"math"
	"slices"
	"testing"

	"opaline/api"
	"opaline/wire"
)

// text is n bytes, of which neighbours are unlike.
func text(n int) string {
	out := make([]byte, n)
	for i := range out {
		out[i] = byte(i*7 + i>>8 + 3)
	}
	return string(out)
}

func TestSplit(t *testing.T) {
	for _, c := range []struct {
		s     string
		sizes []int
		want  []string
	}{
		{"", nil, nil},
		{"", []int{}, nil},
		{"", []int{0}, []string{""}},
		{"", []int{0, 0, 0}, []string{"", "", ""}},
		{"a", []int{1}, []string{"a"}},
		{"abc", []int{3}, []string{"abc"}},
		{"abc", []int{1, 2}, []string{"a", "bc"}},
		{"abc", []int{2, 1}, []string{"ab", "c"}},
		{"abc", []int{1, 1, 1}, []string{"a", "b", "c"}},
		{"abc", []int{0, 1, 0, 0, 2, 0}, []string{"", "a", "", "", "bc", ""}},
		{"\x00\xff\x80é", []int{1, 2, 1, 1}, []string{"\x00", "\xff\x80", "\xc3", "\xa9"}},
	} {
		if got, e := wire.Split(c.s, c.sizes...); e != api.OK || !slices.Equal(got, c.want) {
			t.Errorf("Split of %q by %v: %q, %v", c.s, c.sizes, got, e)
		}
	}
}

func TestSplitWrong(t *testing.T) {
	for _, c := range []struct {
		s     string
		sizes []int
		want  api.Errno
	}{
		{"", []int{1}, api.ErrShort},
		{"", []int{0, 1}, api.ErrShort},
		{"abc", []int{4}, api.ErrShort},
		{"abc", []int{1, 3}, api.ErrShort},
		{"abc", []int{3, 1}, api.ErrShort},
		{"abc", []int{4, 0}, api.ErrShort},
		{"a", nil, api.ErrForm},
		{"a", []int{0}, api.ErrForm},
		{"abc", []int{2}, api.ErrForm},
		{"abc", []int{1, 1}, api.ErrForm},
		{"abc", []int{1, 1, 0}, api.ErrForm},
		{"abc", []int{-1}, api.ErrArg},
		{"", []int{-1}, api.ErrArg},
		{"abc", []int{-1, 4}, api.ErrArg},
		{"abc", []int{4, -1}, api.ErrArg},
		{"abc", []int{3, math.MinInt}, api.ErrArg},
		// That one is below 0 is named ahead of how many bytes there are.
		{"abc", []int{5, -1}, api.ErrArg},
		{"abc", []int{1, -1}, api.ErrArg},
		{"abc", []int{math.MaxInt, math.MaxInt, -1}, api.ErrArg},
		// Sums that would go round: to what there is, below it, above it.
		{"abc", []int{math.MaxInt}, api.ErrShort},
		{"abc", []int{math.MaxInt, math.MaxInt, 5}, api.ErrShort},
		{"abc", []int{math.MaxInt, math.MaxInt, 2}, api.ErrShort},
		{"abc", []int{2, math.MaxInt, math.MaxInt, 1}, api.ErrShort},
		{"abc", []int{3, math.MaxInt}, api.ErrShort},
		{"", []int{math.MaxInt, math.MaxInt, 2}, api.ErrShort},
	} {
		if got, e := wire.Split(c.s, c.sizes...); e != c.want || len(got) != 0 {
			t.Errorf("Split of %q by %v: %q, %v", c.s, c.sizes, got, e)
		}
	}
}

func TestJoin(t *testing.T) {
	for _, c := range []struct {
		sizes []int
		parts []string
		want  string
	}{
		{nil, nil, ""},
		{[]int{}, []string{}, ""},
		{[]int{0}, []string{""}, ""},
		{[]int{3}, []string{"abc"}, "abc"},
		{[]int{1, 2}, []string{"a", "bc"}, "abc"},
		{[]int{2, 0, 1}, []string{"bc", "", "a"}, "bca"},
		{[]int{1, 2}, []string{"\x00", "é"}, "\x00é"},
	} {
		if got, e := wire.Join(c.sizes, c.parts...); e != api.OK || got != c.want {
			t.Errorf("Join of %q by %v: %q, %v", c.parts, c.sizes, got, e)
		}
	}
}

func TestJoinWrong(t *testing.T) {
	for _, c := range []struct {
		sizes []int
		parts []string
		want  api.Errno
	}{
		{nil, []string{""}, api.ErrMany},
		{[]int{0}, nil, api.ErrMany},
		{[]int{1}, []string{"a", "b"}, api.ErrMany},
		{[]int{1}, []string{"a", ""}, api.ErrMany},
		{[]int{1, 1}, []string{"a"}, api.ErrMany},
		{[]int{1, 0}, []string{"a"}, api.ErrMany},
		{[]int{1}, []string{""}, api.ErrForm},
		{[]int{1}, []string{"ab"}, api.ErrForm},
		{[]int{0}, []string{"a"}, api.ErrForm},
		{[]int{1, 2}, []string{"ab", "c"}, api.ErrForm},
		{[]int{1, 2}, []string{"a", "b"}, api.ErrForm},
		{[]int{1, 2}, []string{"", "bc"}, api.ErrForm},
		{[]int{-1}, []string{""}, api.ErrForm},
		{[]int{-1}, []string{"a"}, api.ErrForm},
		{[]int{math.MaxInt, math.MinInt}, []string{"", ""}, api.ErrForm},
		// How many there are is named ahead of how long they are.
		{[]int{1}, []string{"ab", "c"}, api.ErrMany},
		{[]int{1, -1}, []string{"ab"}, api.ErrMany},
	} {
		if got, e := wire.Join(c.sizes, c.parts...); e != c.want || got != "" {
			t.Errorf("Join of %q by %v: %q, %v", c.parts, c.sizes, got, e)
		}
	}
}

// TestSplitJoined: what is joined is split as it was, and what is split is joined so.
func TestSplitJoined(t *testing.T) {
	s := text(300)
	for i := range len(s) + 1 {
		sizes := []int{i / 3, i - i/3, 0, len(s) - i}
		parts, e := wire.Split(s, sizes...)
		if e != api.OK || len(parts) != len(sizes) {
			t.Fatalf("Split by %v: %v", sizes, e)
		}
		for j, part := range parts {
			if len(part) != sizes[j] {
				t.Errorf("Split by %v: a part of %d bytes", sizes, len(part))
			}
		}
		if got, e := wire.Join(sizes, parts...); e != api.OK || got != s {
			t.Errorf("Join by %v: %v", sizes, e)
		}
	}
}

// TestListsStay hands in lists with spare room: neither they nor what lies behind them may be changed.
func TestListsStay(t *testing.T) {
	sizes, parts := []int{1, 2, 77, 78}, []string{"a", "bc", "behind", "far behind"}
	oldSizes, oldParts := slices.Clone(sizes), slices.Clone(parts)
	got, e := wire.Split("abc", sizes[:2]...)
	if joined, f := wire.Join(sizes[:2], parts[:2]...); e != api.OK || f != api.OK || joined != "abc" {
		t.Errorf("Join: %q, %v", joined, f)
	}
	if !slices.Equal(sizes, oldSizes) || !slices.Equal(parts, oldParts) {
		t.Error("lists that were handed in were changed")
	}
	// Nor is an answer another one's memory.
	again, _ := wire.Split("abc", sizes[:2]...)
	got[0] = "changed"
	if again[0] != "a" {
		t.Error("two answers share memory")
	}
}
