package load_test

import (
	"fmt"
	"math"
	"slices"
	"strings"
	"testing"

	"satrapy/load"
)

type row = load.Row

func hit(l *load.Load, zone int, key string, n int) {
	for range n {
		l.Hit(zone, key)
	}
}

func has(t *testing.T, what string, l *load.Load, want ...row) {
	t.Helper()
	if got := l.Table(); !slices.Equal(got, want) {
		t.Errorf("%s: %v, not %v", what, got, want)
	}
}

// P19.1
func TestHit(t *testing.T) {
	l := load.New()
	has(t, "nothing", l)
	for _, zone := range []int{0, -1, math.MinInt} {
		l.Hit(zone, "a")
	}
	l.Hit(1, "")
	l.Hit(1, strings.Repeat("k", 17))
	has(t, "what may not be", l)
	hit(l, 7, "x", 2)
	hit(l, 1, "a", 1)
	hit(l, 1, "b", 2)
	l.Hit(math.MaxInt, strings.Repeat("k", 16))
	has(t, "by zones", l, row{1, 3, "b"}, row{7, 2, "x"}, row{math.MaxInt, 1, strings.Repeat("k", 16)})
}

func TestHitsHaveABound(t *testing.T) {
	l := load.New()
	hit(l, 1, "a", 1<<20+9)
	has(t, "of a key", l, row{1, 1 << 20, "a"})
	l.Hit(1, "b")
	has(t, "of another", l, row{1, 1<<20 + 1, "a"})
	l = load.New()
	for i := range 70 {
		l.Hit(1, fmt.Sprintf("k%02d", i))
	}
	has(t, "64 keys", l, row{1, 64, "k31"})
	l.Hit(1, "k63")
	l.Hit(1, "k64")
	l.Hit(2, "k64")
	has(t, "one that is there", l, row{1, 65, "k32"}, row{2, 1, "k64"})
}

func TestMiddle(t *testing.T) {
	for _, c := range []struct {
		hits map[string]int
		want string
	}{
		{map[string]int{"a": 1}, "a"},
		{map[string]int{"a": 1, "b": 1}, "a"},
		{map[string]int{"a": 1, "b": 2}, "b"},
		{map[string]int{"a": 2, "b": 1, "c": 1}, "a"},
		{map[string]int{"a": 2, "b": 1, "c": 2}, "b"},
		{map[string]int{"a": 1, "b": 1, "c": 9}, "c"},
		{map[string]int{"B": 1, "a": 1, "\xff": 1}, "a"},
	} {
		l := load.New()
		sum := 0
		for key, n := range c.hits {
			hit(l, 3, key, n)
			sum += n
		}
		has(t, fmt.Sprint(c.hits), l, row{3, sum, c.want})
	}
}

func TestFadeAndGone(t *testing.T) {
	l := load.New()
	hit(l, 1, "a", 5)
	hit(l, 1, "b", 1)
	hit(l, 2, "a", 1)
	hit(l, 3, "z", 4)
	l.Fade()
	has(t, "Fade", l, row{1, 2, "a"}, row{3, 2, "z"})
	l.Gone(1)
	l.Gone(9)
	has(t, "Gone", l, row{3, 2, "z"})
	l.Fade()
	l.Fade()
	has(t, "nothing is left", l)
	hit(l, 1, "b", 1)
	has(t, "from the beginning", l, row{1, 1, "b"})
	for i := range 64 {
		hit(l, 5, fmt.Sprint("k", i), 1)
	}
	l.Fade()
	hit(l, 5, "more", 1)
	has(t, "what is 0 goes, and makes room", l, row{5, 1, "more"})
}

// P19.2
func TestSum(t *testing.T) {
	for name, c := range map[string]struct {
		l    [][]row
		want []row
	}{
		"nothing":              {nil, nil},
		"nothing in them":      {[][]row{nil, {}}, nil},
		"by zones":             {[][]row{{{7, 1, "a"}, {-2, 3, "b"}}, {{3, 1, "c"}}}, []row{{-2, 3, "b"}, {3, 1, "c"}, {7, 1, "a"}}},
		"together":             {[][]row{{{1, 2, "a"}}, {{1, 5, "b"}}, {{1, 4, "c"}}}, []row{{1, 11, "b"}}},
		"alike":                {[][]row{{{1, 5, "z"}}, {{1, 5, "b"}}}, []row{{1, 10, "z"}}},
		"of one table":         {[][]row{{{1, 2, "a"}, {1, 3, "b"}}}, []row{{1, 5, "b"}}},
		"below 0":              {[][]row{{{1, -5, "a"}}, {{1, math.MinInt, "b"}}, {{1, 2, "c"}}}, []row{{1, 2, "c"}}},
		"below 0 alone":        {[][]row{{{1, -5, "a"}}, {{1, -2, "b"}}}, []row{{1, 0, "a"}}},
		"0 and below 0":        {[][]row{{{1, -5, "a"}}, {{1, 0, "b"}}}, []row{{1, 0, "a"}}},
		"above all":            {[][]row{{{1, 1 << 39, "a"}}, {{1, 1<<39 + 1, "b"}}}, []row{{1, 1 << 40, "b"}}},
		"far above all":        {[][]row{{{1, math.MaxInt, "a"}}, {{1, math.MaxInt, "b"}}, {{1, 1, "c"}}}, []row{{1, 1 << 40, "a"}}},
		"just at it":           {[][]row{{{1, 1<<40 - 1, "a"}}, {{1, 1, "b"}}}, []row{{1, 1 << 40, "a"}}},
		"any Middle, any Zone": {[][]row{{{0, 1, strings.Repeat("k", 40)}, {math.MinInt, 1, ""}}}, []row{{math.MinInt, 1, ""}, {0, 1, strings.Repeat("k", 40)}}},
	} {
		if got := load.Sum(c.l...); !slices.Equal(got, c.want) {
			t.Errorf("%s: %v, not %v", name, got, c.want)
		}
	}
}

// P19.3
func TestNewMemory(t *testing.T) {
	l := load.New()
	hit(l, 1, "a", 2)
	got := l.Table()
	got[0].Hits = 99
	has(t, "Table", l, row{1, 2, "a"})
	kept := l.Table()
	l.Fade()
	if kept[0].Hits != 2 {
		t.Error("an answer changed")
	}
	a := append(make([]row, 0, 3), row{2, 1, "x"}, row{1, 1, "y"})
	sum := load.Sum(a)
	sum[0].Hits = 99
	if !slices.Equal(a[:3], []row{{2, 1, "x"}, {1, 1, "y"}, {}}) {
		t.Error(a[:3])
	}
}

func TestNilLoad(t *testing.T) {
	var l *load.Load
	l.Hit(1, "a")
	l.Fade()
	l.Gone(1)
	has(t, "nil", l)
}
