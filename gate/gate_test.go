package gate_test

import (
	"bytes"
	"math"
	"reflect"
	"slices"
	"strings"
	"testing"

	"satrapy/api"
	"satrapy/gate"
	"satrapy/wire"
)

var ax = api.Place{Key: "a", Who: "x"}

func made(t *testing.T, id, hosts int) *gate.Gate {
	t.Helper()
	g, err := gate.New(id, hosts)
	if err != api.OK || g == nil {
		t.Fatal("New:", err)
	}
	return g
}

func msg(t *testing.T, from, to int, w wire.Word) api.Msg {
	t.Helper()
	b, err := wire.Encode(w)
	if err != api.OK {
		t.Fatal(w, err)
	}
	return api.Msg{From: from, To: to, Data: b}
}

func mint(n int) api.Op { return api.Op{Kind: api.OpMint, At: ax, Count: n} }

func numbered(o api.Op, client, seq int) api.Op {
	o.Client, o.Seq = client, seq
	return o
}

func submits(t *testing.T, g *gate.Gate, o, want api.Op) {
	t.Helper()
	if got, err := g.Submit(o); got != want || err != api.OK {
		t.Errorf("Submit(%v): %v, %v", o, got, err)
	}
	if got, ok := g.Pending(); got != want || !ok {
		t.Errorf("Pending: %v, %v", got, ok)
	}
}

// calls: these messages are one Call of a request to a host.
func calls(t *testing.T, what string, got []api.Msg, from, to int, o api.Op) {
	t.Helper()
	if want := []api.Msg{msg(t, from, to, wire.Word{Kind: wire.Call, Op: o})}; !reflect.DeepEqual(got, want) {
		t.Errorf("%s: %v, not a Call to %d", what, got, to)
	}
}

func answer(o api.Op, reply api.Reply) wire.Word {
	return wire.Word{Kind: wire.Answer, Op: api.Op{Kind: o.Kind, Client: o.Client, Seq: o.Seq}, Reply: reply}
}

func refused(o api.Op, err api.Errno, to int) wire.Word {
	return wire.Word{Kind: wire.Answer, Op: api.Op{Kind: o.Kind, Client: o.Client, Seq: o.Seq}, Err: err, Host: to}
}

// P25.1
func TestNew(t *testing.T) {
	for _, c := range [][2]int{{31, 1}, {36, 1}, {0, 1}, {-1, 1}, {math.MaxInt, 1}, {math.MinInt, 1}, {32, 0}, {32, 7}, {32, -1}, {32, math.MaxInt}} {
		if g, err := gate.New(c[0], c[1]); g != nil || err != api.ErrArg {
			t.Error(c, err)
		}
	}
	for _, c := range [][2]int{{32, 1}, {35, 6}} {
		g := made(t, c[0], c[1])
		if o, ok := g.Pending(); ok || o != (api.Op{}) || len(g.Answers()) != 0 || len(g.Tick()) != 0 {
			t.Error(c, o, ok)
		}
	}
}

func TestSubmit(t *testing.T) {
	g := made(t, 34, 2)
	for name, o := range map[string]api.Op{
		"nothing":           {},
		"an arrival":        {Kind: api.OpArrive, At: ax, Count: 1},
		"a done":            {Kind: api.OpDone, At: ax},
		"kind 8":            {Kind: 8, At: ax},
		"kind below 0":      {Kind: -1, At: ax},
		"of none":           mint(0),
		"of too many":       mint(api.MaxCount + 1),
		"no place":          {Kind: api.OpLook},
		"a long key":        {Kind: api.OpLook, At: api.Place{Key: strings.Repeat("k", 17), Who: "x"}},
		"a look with a To":  {Kind: api.OpLook, At: ax, To: ax},
		"an order of money": {Kind: api.OpOrder, At: ax, Count: 1, Price: 1},
	} {
		if got, err := g.Submit(o); got != (api.Op{}) || err != api.ErrArg {
			t.Error(name, got, err)
		}
		if _, ok := g.Pending(); ok {
			t.Error(name, "is pending")
		}
	}
	o := mint(5)
	o.Client, o.Seq = math.MinInt, math.MaxInt // its own are put in their place
	submits(t, g, o, numbered(mint(5), 3, 1))
	for _, o := range []api.Op{mint(6), {}} {
		if got, err := g.Submit(o); got != (api.Op{}) || err != api.ErrBusy {
			t.Error(got, err)
		}
	}
	g.Hear(msg(t, 8, 34, answer(numbered(mint(5), 3, 1), api.Reply{})))
	submits(t, g, mint(6), numbered(mint(6), 3, 2))
}

func TestSubmitOfEachKind(t *testing.T) {
	for _, o := range []api.Op{mint(1), {Kind: api.OpSend, At: ax, To: ax, Count: 1}, {Kind: api.OpOrder, At: ax, Item: 1, Count: 1, Price: 1, Buy: true}, {Kind: api.OpCancel, At: ax, ID: 1}, {Kind: api.OpLook, At: ax}} {
		submits(t, made(t, 32, 1), o, numbered(o, 1, 1))
	}
}

// P25.2
func TestTick(t *testing.T) {
	g := made(t, 33, 3)
	o := numbered(mint(5), 2, 1)
	submits(t, g, mint(5), o)
	for i := range 40 {
		l := g.Tick()
		if i%(api.Again+1) == 0 {
			calls(t, "a Tick", l, 33, api.FirstHost+i/(api.Again+1)%3, o)
		} else if len(l) != 0 {
			t.Error(i, l)
		}
	}
	g.Hear(msg(t, 9, 33, answer(o, api.Reply{})))
	for range 9 {
		if l := g.Tick(); len(l) != 0 {
			t.Error("nothing is pending", l)
		}
	}
	submits(t, g, mint(6), numbered(mint(6), 2, 2))
	calls(t, "at once, to the next one", g.Tick(), 33, 10, numbered(mint(6), 2, 2))
}

func TestTickWithOneHost(t *testing.T) {
	g := made(t, 32, 1)
	look := api.Op{Kind: api.OpLook, At: api.Place{Key: "a", Who: "b"}}
	submits(t, g, look, numbered(look, 1, 1))
	for range 3 {
		calls(t, "a Tick", g.Tick(), 32, 8, numbered(look, 1, 1))
		for range api.Again {
			g.Tick()
		}
	}
}

func TestHearNothing(t *testing.T) {
	o := numbered(mint(5), 1, 1)
	good := answer(o, api.Reply{ID: 3})
	with := func(f func(w *wire.Word)) wire.Word {
		w := good
		f(&w)
		return w
	}
	spoilt := msg(t, 8, 32, good)
	spoilt.Data[15] ^= 1
	for name, m := range map[string]api.Msg{
		"to another one": msg(t, 8, 33, good),
		"from a seat":    msg(t, 0, 32, good),
		"from a gate":    msg(t, 33, 32, good),
		"from none":      msg(t, 10, 32, good), // it has two hosts
		"from below":     msg(t, 7, 32, good),
		"another Kind":   msg(t, 8, 32, with(func(w *wire.Word) { w.Op.Kind = api.OpLook })),
		"another Client": msg(t, 8, 32, with(func(w *wire.Word) { w.Op.Client = 2 })),
		"another Seq":    msg(t, 8, 32, with(func(w *wire.Word) { w.Op.Seq = 2 })),
		"a Call":         msg(t, 8, 32, wire.Word{Kind: wire.Call, Op: o}),
		"nothing":        {From: 8, To: 32},
		"no word":        {From: 8, To: 32, Data: []byte("none")},
		"spoilt":         spoilt,
		"a lease":        msg(t, 8, 32, refused(o, api.ErrLease, 0)),
		"a lease, Host":  msg(t, 8, 32, refused(o, api.ErrLease, 9)),
		"moved, no Host": msg(t, 8, 32, refused(o, api.ErrMoved, 0)),
		"moved to none":  msg(t, 8, 32, refused(o, api.ErrMoved, 10)),
		"moved below":    msg(t, 8, 32, refused(o, api.ErrMoved, 7)),
	} {
		g := made(t, 32, 2)
		if l := g.Hear(m); len(l) != 0 {
			t.Error(name, "nothing is pending", l)
		}
		submits(t, g, mint(5), o)
		calls(t, name, g.Tick(), 32, 8, o)
		if l := g.Hear(m); len(l) != 0 || len(g.Answers()) != 0 {
			t.Error(name, l, g.Answers())
		}
		if _, ok := g.Pending(); !ok {
			t.Error(name, "it was answered")
		}
		for range api.Again {
			if l := g.Tick(); len(l) != 0 {
				t.Error(name, "it waits no more", l)
			}
		}
		calls(t, name, g.Tick(), 32, 9, o)
	}
}

func TestMoved(t *testing.T) {
	g := made(t, 32, 4)
	o := numbered(mint(5), 1, 1)
	submits(t, g, mint(5), o)
	g.Tick()
	g.Tick()
	calls(t, "moved", g.Hear(msg(t, 8, 32, refused(o, api.ErrMoved, 10))), 32, 10, o)
	for range api.Again {
		if l := g.Tick(); len(l) != 0 {
			t.Error("it waits anew", l)
		}
	}
	calls(t, "that host once more", g.Tick(), 32, 10, o)
	for range api.Again {
		g.Tick()
	}
	calls(t, "and the one behind", g.Tick(), 32, 11, o)
	calls(t, "moved, from the last one to itself", g.Hear(msg(t, 11, 32, refused(o, api.ErrMoved, 11))), 32, 11, o)
}

func TestAnswers(t *testing.T) {
	g := made(t, 32, 2)
	a, b := numbered(mint(5), 1, 1), numbered(mint(6), 1, 2)
	submits(t, g, mint(5), a)
	if l := g.Hear(msg(t, 9, 32, answer(a, api.Reply{Err: api.ErrFull}))); len(l) != 0 {
		t.Error(l)
	}
	if o, ok := g.Pending(); ok || o != (api.Op{}) {
		t.Error("an error of the request is an answer", o)
	}
	g.Hear(msg(t, 9, 32, answer(a, api.Reply{})))
	submits(t, g, mint(6), b)
	g.Hear(msg(t, 8, 32, answer(a, api.Reply{})))
	g.Hear(msg(t, 8, 32, answer(b, api.Reply{Has: api.Items{1}})))
	g.Hear(msg(t, 8, 32, answer(b, api.Reply{})))
	want := []gate.Answer{{Op: a, Reply: api.Reply{Err: api.ErrFull}}, {Op: b, Reply: api.Reply{Has: api.Items{1}}}}
	if l := g.Answers(); !slices.Equal(l, want) {
		t.Error(l)
	}
}

// P25.4
func TestNewMemory(t *testing.T) {
	g := made(t, 32, 2)
	o := numbered(mint(5), 1, 1)
	submits(t, g, mint(5), o)
	clear(g.Tick()[0].Data)
	m := msg(t, 8, 32, refused(o, api.ErrMoved, 9))
	was := bytes.Clone(m.Data)
	calls(t, "moved", g.Hear(m), 32, 9, o)
	if !bytes.Equal(m.Data, was) {
		t.Error("a message changed")
	}
	g.Hear(msg(t, 8, 32, answer(o, api.Reply{ID: 1})))
	l := g.Answers()
	l[0].Reply.ID = 9
	_ = append(l, gate.Answer{})
	if g.Answers()[0].Reply.ID != 1 {
		t.Error("Answers share memory")
	}
}

func TestNilGate(t *testing.T) {
	var g *gate.Gate
	if o, err := g.Submit(mint(5)); o != (api.Op{}) || err != api.ErrArg {
		t.Error(o, err)
	}
	if o, ok := g.Pending(); ok || o != (api.Op{}) || len(g.Tick()) != 0 || len(g.Hear(api.Msg{})) != 0 || len(g.Answers()) != 0 {
		t.Error("a nil Gate")
	}
}
