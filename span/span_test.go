package span_test

import (
	"strings"
	"testing"

	"satrapy/api"
	"satrapy/span"
)

var (
	long = strings.Repeat("k", 16)
	all  = api.Span{}
)

func of(from, to string) api.Span { return api.Span{From: from, To: to} }

// none is spans that are none.
func none() []api.Span {
	return []api.Span{of("b", "a"), of("a", "a"), of("ab", "a"), of(long+"k", ""), of("", long+"k"), of("b", "B"), of("\xff", "a")}
}

// some is spans.
func some() []api.Span {
	return []api.Span{all, of("a", ""), of("", "a"), of("a", "b"), of("a", "ab"), of("a", "a\x00"), of(long, ""), of("", long), of("A", "a"), of("a", "\xff")}
}

// P12.1
func TestIs(t *testing.T) {
	for _, s := range some() {
		if !span.Is(s) {
			t.Errorf("%q", s)
		}
	}
	for _, s := range none() {
		if span.Is(s) {
			t.Errorf("%q", s)
		}
	}
}

func TestIn(t *testing.T) {
	for _, c := range []struct {
		s    api.Span
		key  string
		want bool
	}{
		{all, "a", true}, {all, "\x00", true}, {all, "\xff", true}, {all, long, true}, {all, "", false}, {all, long + "k", false},
		{of("b", ""), "b", true}, {of("b", ""), "a\xff", false}, {of("b", ""), "\xff", true},
		{of("", "b"), "b", false}, {of("", "b"), "a\xff", true}, {of("", "b"), "B", true},
		{of("b", "d"), "b", true}, {of("b", "d"), "c", true}, {of("b", "d"), "cz", true}, {of("b", "d"), "d", false}, {of("b", "d"), "a", false}, {of("b", "d"), "", false},
		{of("d", "b"), "c", false}, {of("b", "b"), "b", false},
	} {
		if span.In(c.s, c.key) != c.want {
			t.Errorf("In(%q, %q) is not %v", c.s, c.key, c.want)
		}
	}
}

func TestWithin(t *testing.T) {
	for _, c := range []struct {
		a, b api.Span
		want bool
	}{
		{all, all, true}, {of("b", "d"), all, true}, {of("b", ""), all, true}, {of("", "b"), all, true}, {all, of("b", ""), false}, {all, of("", "b"), false},
		{of("b", "d"), of("b", "d"), true}, {of("b", "c"), of("b", "d"), true}, {of("c", "d"), of("b", "d"), true}, {of("b", "e"), of("b", "d"), false}, {of("a", "d"), of("b", "d"), false},
		{of("b", ""), of("b", "d"), false}, {of("b", ""), of("a", ""), true}, {of("b", "c"), of("c", "d"), false}, {of("e", "f"), of("b", "d"), false},
	} {
		if span.Within(c.a, c.b) != c.want {
			t.Errorf("Within(%q, %q) is not %v", c.a, c.b, c.want)
		}
	}
	for _, s := range none() {
		if span.Within(s, all) || span.Within(of("a", "b"), s) || span.Within(s, s) {
			t.Errorf("%q is none", s)
		}
	}
}

// P12.2
func TestCut(t *testing.T) {
	for _, c := range []struct {
		s    api.Span
		key  string
		a, b api.Span
		ok   bool
	}{
		{of("a", ""), "m", of("a", "m"), of("m", ""), true},
		{all, "m", of("", "m"), of("m", ""), true},
		{of("a", "b"), "ab", of("a", "ab"), of("ab", "b"), true},
		{of("a", "b"), "a", all, all, false},
		{of("a", "b"), "b", all, all, false},
		{of("b", "d"), "a", all, all, false},
		{of("b", "d"), "e", all, all, false},
		{all, "", all, all, false},
		{all, long + "k", all, all, false},
		{all, long, of("", long), of(long, ""), true},
		{of("d", "b"), "c", all, all, false},
		{of("a", long+"k"), "b", all, all, false},
	} {
		if a, b, ok := span.Cut(c.s, c.key); a != c.a || b != c.b || ok != c.ok {
			t.Errorf("Cut(%q, %q): %q, %q, %v", c.s, c.key, a, b, ok)
		}
	}
}

func TestJoin(t *testing.T) {
	for _, c := range []struct {
		a, b, want api.Span
		ok         bool
	}{
		{of("a", "m"), of("m", ""), of("a", ""), true},
		{of("", "m"), of("m", "n"), of("", "n"), true},
		{of("a", "m"), of("n", ""), all, false},
		{of("a", "m"), of("l", ""), all, false},
		{of("m", "n"), of("a", "m"), all, false},
		{of("a", ""), of("", "b"), all, false},
		{all, all, all, false},
		{of("z", "m"), of("m", ""), all, false},
		{of("a", "m"), of("m", "b"), all, false},
		{of("", long+"k"), of(long+"k", ""), all, false},
	} {
		if s, ok := span.Join(c.a, c.b); s != c.want || ok != c.ok {
			t.Errorf("Join(%q, %q): %q, %v", c.a, c.b, s, ok)
		}
	}
}

func TestAll(t *testing.T) {
	for _, l := range [][]api.Span{{all}, {of("", "m"), of("m", "")}, {of("", "b"), of("b", "bb"), of("bb", long), of(long, "")}} {
		if !span.All(l...) {
			t.Errorf("%q", l)
		}
	}
	for _, l := range [][]api.Span{
		nil, {all, all}, {of("a", "")}, {of("", "a")}, {of("m", ""), of("", "m")}, {of("", "m"), of("n", "")}, {of("", "n"), of("m", "")},
		{of("", "m"), of("m", "n")}, {of("", "m"), of("m", ""), of("m", "")}, {of("", "m"), of("m", ""), all}, {of("", "m"), of("m", "b"), of("b", "")}, {all, of("", "m"), of("m", "")},
		{of("", long+"k"), of(long+"k", "")}, {of("", "m"), of("m", "m"), of("m", "")},
	} {
		if span.All(l...) {
			t.Errorf("%q", l)
		}
	}
}

// P12.3
func TestJoinOfCut(t *testing.T) {
	for _, s := range some() {
		for _, key := range []string{"a", "aa", "a\x00", "ab", "b", "B", "kk", "\xfe"} {
			a, b, ok := span.Cut(s, key)
			if !ok {
				continue
			}
			if back, ok := span.Join(a, b); !ok || back != s || !span.Within(a, s) || !span.Within(b, s) || span.In(a, key) || !span.In(b, key) {
				t.Errorf("%q at %q: %q, %q", s, key, a, b)
			}
		}
	}
}
