package net_test

import (
	"math"
	"reflect"
	"testing"

	"satrapy/api"
	"satrapy/net"
)

func msg(from, to int, data string) api.Msg { return api.Msg{From: from, To: to, Data: []byte(data)} }

// of is a net with messages of these texts, from 1 to 2.
func of(texts ...string) *net.Net {
	n := net.New()
	for _, s := range texts {
		n.Send(msg(1, 2, s))
	}
	return n
}

// rest gives all that is left, the first one first.
func rest(n *net.Net) string {
	s := ""
	for n.Len() > 0 {
		m, _ := n.Give(0)
		s += string(m.Data)
	}
	return s
}

// P7.1
func TestSend(t *testing.T) {
	n := net.New()
	if n.Len() != 0 || n.Send() != 0 || n.Send(msg(1, 2, "a"), msg(3, 4, "b")) != 2 || n.Send(msg(5, 6, "c")) != 1 || n.Len() != 3 {
		t.Error(n.Len())
	}
	for _, want := range []api.Msg{msg(1, 2, "a"), msg(3, 4, "b"), msg(5, 6, "c")} {
		if m, ok := n.Give(0); !ok || !reflect.DeepEqual(m, want) {
			t.Error(m, ok)
		}
	}
	if m, ok := n.Give(0); ok || !reflect.DeepEqual(m, api.Msg{}) {
		t.Error(m, ok)
	}
}

func TestSendMoreThanMaxFlight(t *testing.T) {
	n := net.New()
	var l []api.Msg
	for i := range api.MaxFlight - 1 {
		l = append(l, msg(i, 0, "x"))
	}
	if n.Send(l...) != len(l) || n.Send(msg(-1, 0, "last"), msg(-2, 0, "lost")) != 1 || n.Send(msg(-3, 0, "lost")) != 0 || n.Len() != api.MaxFlight {
		t.Error(n.Len())
	}
	if n.Twice(0) || n.Len() != api.MaxFlight {
		t.Error("Twice of a full net")
	}
	if m, ok := n.Give(api.MaxFlight - 1); !ok || m.From != -1 {
		t.Error(m)
	}
	if !n.Twice(5) || n.Len() != api.MaxFlight {
		t.Error("Twice", n.Len())
	}
	if m, _ := n.Give(api.MaxFlight - 1); m.From != 5 {
		t.Error(m)
	}
	if n.Send(append(l, l...)...) != 1 {
		t.Error("room for one")
	}
}

func TestGive(t *testing.T) {
	for pick, want := range map[int]string{0: "a", 1: "b", 2: "c", 3: "a", 7: "b", -1: "a", math.MinInt: "a", math.MaxInt: "b"} {
		n := of("a", "b", "c")
		if m, ok := n.Give(pick); !ok || string(m.Data) != want || n.Len() != 2 {
			t.Error(pick, m, ok)
		}
	}
	n := of("a", "b", "c", "d")
	n.Give(1)
	if s := rest(n); s != "acd" {
		t.Error(s)
	}
}

func TestTwice(t *testing.T) {
	for pick, want := range map[int]string{0: "abca", 1: "abcb", 5: "abcc", -9: "abca"} {
		n := of("a", "b", "c")
		if !n.Twice(pick) || n.Len() != 4 {
			t.Error(pick)
		}
		if s := rest(n); s != want {
			t.Error(pick, s)
		}
	}
}

func TestLate(t *testing.T) {
	for pick, want := range map[int]string{0: "bca", 1: "acb", 2: "abc", 4: "acb", -9: "bca"} {
		n := of("a", "b", "c")
		if !n.Late(pick) || n.Len() != 3 {
			t.Error(pick)
		}
		if s := rest(n); s != want {
			t.Error(pick, s)
		}
	}
	n := net.New()
	n.Send(msg(1, 2, "a"), msg(1, 2, "b"))
	n.Late(0)
	if m, _ := n.Give(0); string(m.Data) != "b" {
		t.Error(m)
	}
}

func TestSpoil(t *testing.T) {
	for _, c := range []struct {
		pick, at int
		by       byte
		want     string
	}{
		{0, 0, 1, "`bc|xy"}, {0, 2, 3, "ab`|xy"}, {0, 4, 3, "aac|xy"}, {0, -1, 1, "`bc|xy"}, {2, 1, 1, "abc|xx"}, {5, math.MaxInt, 1, "abc|xx"}, {-1, math.MinInt, 1, "`bc|xy"},
	} {
		n := of("abc", "|", "xy")
		if !n.Spoil(c.pick, c.at, c.by) {
			t.Error(c, "was not spoilt")
		}
		if s := rest(n); s != c.want {
			t.Error(c, s)
		}
	}
	n := of("abc", "", "xy")
	if n.Spoil(0, 0, 0) || n.Spoil(1, 0, 1) {
		t.Error("by 0, or without a byte")
	}
	if !n.Spoil(0, 0, 1) || n.Spoil(0, 1, 1) || n.Spoil(3, 1, 1) {
		t.Error("spoilt twice")
	}
	n.Twice(0)
	if n.Spoil(3, 1, 1) {
		t.Error("a double of what was spoilt")
	}
	n.Twice(2)
	if !n.Spoil(2, 0, 1) || !n.Spoil(4, 0, 2) {
		t.Error("a double of what was not spoilt")
	}
	n.Late(0)
	if n.Spoil(4, 1, 1) {
		t.Error("late, and spoilt twice")
	}
	if s := rest(n); s != "yy`bczy`bc" {
		t.Error(s)
	}
}

func TestNoMessage(t *testing.T) {
	n := net.New()
	if _, ok := n.Give(3); ok || n.Twice(3) || n.Late(3) || n.Spoil(3, 3, 3) || n.Drop(1, 2) != 0 || n.Len() != 0 {
		t.Error("something of nothing")
	}
}

func TestDrop(t *testing.T) {
	full := func() *net.Net {
		n := net.New()
		n.Send(msg(1, 2, "a"), msg(2, 3, "b"), msg(3, 4, "c"), msg(4, 1, "d"), msg(2, 2, "e"))
		return n
	}
	for _, c := range []struct {
		nodes []int
		n     int
		left  string
	}{{nil, 0, "abcde"}, {[]int{9}, 0, "abcde"}, {[]int{2}, 3, "cd"}, {[]int{1, 3}, 4, "e"}, {[]int{1, 2, 3, 4}, 5, ""}, {[]int{4, 4}, 2, "abe"}} {
		n := full()
		if got := n.Drop(c.nodes...); got != c.n {
			t.Error(c, got)
		}
		if s := rest(n); s != c.left {
			t.Error(c, s)
		}
	}
}

// P7.2
func TestNewMemory(t *testing.T) {
	n := net.New()
	m := msg(1, 2, "abc")
	l := append(make([]api.Msg, 0, 3), m)
	n.Send(l...)
	m.Data[0], l[0].From = 'x', 9
	n.Twice(0)
	n.Spoil(0, 1, 1)
	a, _ := n.Give(0)
	b, _ := n.Give(0)
	if string(a.Data) != "acc" || string(b.Data) != "abc" || a.From != 1 || l[:2][1].Data != nil {
		t.Errorf("%q %q", a.Data, b.Data)
	}
	n.Send(a)
	a.Data[0] = 'y'
	n.Twice(0)
	c, _ := n.Give(0)
	c.Data[2] = 'z'
	if d, _ := n.Give(0); string(d.Data) != "acc" {
		t.Errorf("%q", d.Data)
	}
	nodes := append(make([]int, 0, 3), 1)
	n.Drop(nodes...)
	if nodes[:2][1] != 0 {
		t.Error(nodes[:2])
	}
}

func TestNilNet(t *testing.T) {
	var n *net.Net
	if m, ok := n.Give(0); ok || !reflect.DeepEqual(m, api.Msg{}) || n.Send(msg(1, 2, "a")) != 0 || n.Twice(0) || n.Late(0) || n.Spoil(0, 0, 1) || n.Len() != 0 || n.Drop(1) != 0 {
		t.Error("a nil Net")
	}
}
