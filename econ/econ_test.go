package econ_test

import (
	"bytes"
	"fmt"
	"math"
	"math/rand"
	"reflect"
	"slices"
	"strings"
	"testing"

	"satrapy/api"
	"satrapy/econ"
	"satrapy/octet"
	"satrapy/op"
	"satrapy/vault"
)

const most = api.MaxHold

type items = api.Items

func at(key, who string) api.Place { return api.Place{Key: key, Who: who} }

func mint(client, seq int, p api.Place, item, count int) api.Op {
	return api.Op{Kind: api.OpMint, Client: client, Seq: seq, At: p, Item: item, Count: count}
}

func send(client, seq int, p, to api.Place, item, count int) api.Op {
	return api.Op{Kind: api.OpSend, Client: client, Seq: seq, At: p, To: to, Item: item, Count: count}
}

func order(client, seq int, p api.Place, buy bool, item, count, price int) api.Op {
	return api.Op{Kind: api.OpOrder, Client: client, Seq: seq, At: p, Buy: buy, Item: item, Count: count, Price: price}
}

func look(client, seq int, p api.Place) api.Op {
	return api.Op{Kind: api.OpLook, Client: client, Seq: seq, At: p}
}

func arrive(client, seq int, p api.Place, item, count int) api.Op {
	return api.Op{Kind: api.OpArrive, Client: client, Seq: seq, At: p, Item: item, Count: count}
}

func done(client, seq int, p api.Place) api.Op {
	return api.Op{Kind: api.OpDone, Client: client, Seq: seq, At: p}
}

// says applies a request that is to be answered so.
func says(t *testing.T, e *econ.Econ, o api.Op, want api.Reply, wantDone bool) {
	t.Helper()
	was := e.Encode()
	peek, known := e.Peek(o)
	if known == wantDone || known && peek != want || !known && peek != (api.Reply{}) {
		t.Errorf("Peek(%v): %v, %v", o, peek, known)
	}
	if !bytes.Equal(e.Encode(), was) {
		t.Errorf("Peek(%v) changed something", o)
	}
	if got, ok := e.Apply(o); got != want || ok != wantDone {
		t.Errorf("Apply(%v): %v, %v, not %v, %v", o, got, ok, want, wantDone)
	}
	if !wantDone && !bytes.Equal(e.Encode(), was) {
		t.Errorf("Apply(%v), which was known, changed something", o)
	}
}

func has(t *testing.T, e *econ.Econ, p api.Place, want items) {
	t.Helper()
	if got := e.At(p); got != want {
		t.Errorf("%v has %v, not %v", p, got, want)
	}
}

var (
	ok   = api.Reply{}
	ax   = at("a", "x")
	by   = at("b", "y")
	long = strings.Repeat("k", 16)
)

// P13.1
func TestRequestsThatMayNotBe(t *testing.T) {
	for name, o := range map[string]api.Op{
		"nothing":       {},
		"no client":     mint(0, 1, ax, 0, 5),
		"no seq":        mint(1, 0, ax, 0, 5),
		"nobody":        mint(1, 1, at("a", ""), 0, 5),
		"a long key":    mint(1, 1, at(long+"k", "x"), 0, 5),
		"below 0":       mint(1, 1, ax, 0, -1),
		"an Item":       mint(1, 1, ax, 4, 1),
		"a kind":        {Kind: 8, Client: 1, Seq: 1, At: ax},
		"a kind, below": {Kind: math.MinInt, Client: 1, Seq: 1, At: ax},
		"an arrival":    arrive(1, 1, ax, 0, 0),
		"a done":        done(1, 1, at("", "")),
	} {
		e := econ.New()
		says(t, e, o, api.Reply{Err: api.ErrArg}, false)
		if !bytes.Equal(e.Encode(), econ.New().Encode()) {
			t.Error(name, "changed something")
		}
	}
}

func TestSessions(t *testing.T) {
	e := econ.New()
	says(t, e, mint(1, 5, ax, 0, 5), ok, true)
	says(t, e, mint(1, 5, ax, 0, 5), ok, false)
	says(t, e, look(1, 5, ax), ok, false) // another request of that Seq: the last Reply
	says(t, e, mint(1, 4, ax, 0, 5), api.Reply{Err: api.ErrOld}, false)
	says(t, e, mint(2, 4, ax, 0, 1), ok, true)
	says(t, e, look(1, 7, ax), api.Reply{Has: items{6}}, true)
	says(t, e, mint(2, 5, ax, 0, 1), ok, true)
	says(t, e, look(1, 7, ax), api.Reply{Has: items{6}}, false)
	says(t, e, send(1, 8, ax, by, 1, 1), api.Reply{Err: api.ErrFunds}, true)
	says(t, e, mint(2, 6, ax, 1, 1), ok, true)
	says(t, e, send(1, 8, ax, by, 1, 1), api.Reply{Err: api.ErrFunds}, false)
	says(t, e, send(1, 9, ax, by, 1, 1), ok, true)
	has(t, e, ax, items{7})
}

func TestArrivalsHaveNoSession(t *testing.T) {
	e := econ.New()
	says(t, e, mint(1, 9, ax, 0, 5), ok, true)
	says(t, e, arrive(1, 3, by, 2, 4), ok, true)
	says(t, e, arrive(1, 3, by, 2, 4), ok, false)
	says(t, e, arrive(1, 9, by, 2, 4), ok, true)
	says(t, e, arrive(1, 20, by, 2, 4), ok, true)
	says(t, e, done(1, 30, ax), ok, false)
	says(t, e, send(1, 10, ax, by, 0, 1), ok, true)
	says(t, e, look(1, 11, by), api.Reply{Has: items{0, 0, 12}}, true)
	says(t, e, done(1, 10, ax), ok, true)
	says(t, e, done(1, 10, ax), ok, false)
	says(t, e, mint(1, 12, ax, 0, 5), ok, true)
	if !e.Arrived(1, 3) || !e.Arrived(1, 9) || !e.Arrived(1, 20) || e.Arrived(1, 10) || e.Arrived(2, 3) || e.Arrived(0, math.MinInt) {
		t.Error("Arrived")
	}
}

// P13.2
func TestMint(t *testing.T) {
	e := econ.New()
	says(t, e, mint(1, 1, ax, 3, 7), ok, true)
	says(t, e, mint(1, 2, ax, 0, 2), ok, true)
	has(t, e, ax, items{2, 0, 0, 7})
	full, err := econ.Decode(economy(vaultOf("x", items{most}), nil, nil, nil))
	if err != api.OK {
		t.Fatal(err)
	}
	says(t, full, mint(1, 1, at("k", "x"), 0, 1), api.Reply{Err: api.ErrFull}, true)
	says(t, full, mint(1, 1, at("k", "x"), 0, 1), api.Reply{Err: api.ErrFull}, false)
	has(t, full, at("k", "x"), items{most})
}

func TestSend(t *testing.T) {
	e := econ.New()
	says(t, e, mint(1, 1, ax, 2, 7), ok, true)
	says(t, e, send(1, 2, ax, by, 2, 8), api.Reply{Err: api.ErrFunds}, true)
	says(t, e, send(1, 3, at("q", "x"), by, 2, 8), api.Reply{Err: api.ErrFunds}, true)
	if len(e.Transits()) != 0 || !slices.Equal(e.Keys(), []string{"a"}) {
		t.Error(e.Transits(), e.Keys())
	}
	says(t, e, send(1, 4, ax, by, 2, 3), ok, true)
	has(t, e, ax, items{0, 0, 4})
	has(t, e, by, items{})
	if l := e.Transits(); !slices.Equal(l, []api.Transit{{Client: 1, Seq: 4, At: ax, To: by, Item: 2, Count: 3}}) {
		t.Error(l)
	}
	says(t, e, arrive(1, 4, by, 2, 3), ok, true)
	has(t, e, by, items{0, 0, 3})
	if len(e.Transits()) != 1 {
		t.Error("what arrives goes with OpDone alone")
	}
	says(t, e, done(1, 4, ax), ok, true)
	if len(e.Transits()) != 0 {
		t.Error(e.Transits())
	}
}

func TestAnArrivalThatThePurseCantHave(t *testing.T) {
	e, _ := econ.Decode(economy(vaultOf("x", items{most - 2}), nil, nil, nil))
	k := at("k", "x")
	says(t, e, arrive(1, 1, k, 0, 3), ok, true)
	has(t, e, k, items{most - 2})
	if !e.Arrived(1, 1) {
		t.Error("it has not arrived")
	}
	says(t, e, arrive(1, 1, k, 0, 1), ok, false)
	says(t, e, arrive(1, 2, k, 0, 2), ok, true)
	has(t, e, k, items{most})
}

func TestOrders(t *testing.T) {
	e := econ.New()
	says(t, e, mint(1, 1, ax, 1, 5), ok, true)
	says(t, e, mint(1, 2, at("a", "y"), 0, 100), ok, true)
	says(t, e, order(1, 3, ax, false, 1, 3, 4), api.Reply{ID: 1}, true)
	says(t, e, order(1, 3, ax, false, 1, 3, 4), api.Reply{ID: 1}, false)
	says(t, e, order(2, 1, at("a", "y"), true, 1, 2, 5), api.Reply{ID: 2}, true)
	has(t, e, at("a", "y"), items{92, 2})
	has(t, e, ax, items{8, 2})
	cancel := func(seq, id int) api.Op { return api.Op{Kind: api.OpCancel, Client: 3, Seq: seq, At: ax, ID: id} }
	says(t, e, cancel(1, 2), api.Reply{Err: api.ErrNone}, true)
	says(t, e, cancel(2, 1), ok, true)
	has(t, e, ax, items{8, 3})
	says(t, e, cancel(3, 1), api.Reply{Err: api.ErrNone}, true)
	says(t, e, order(2, 2, at("q", "y"), true, 1, 2, 5), api.Reply{Err: api.ErrFunds}, true)
	says(t, e, order(2, 3, by, false, 1, 2, 5), api.Reply{Err: api.ErrFunds}, true)
	if !slices.Equal(e.Keys(), []string{"a"}) {
		t.Error(e.Keys())
	}
	for i := range api.MaxOrders {
		e.Apply(order(4, 1+i, at("a", "y"), true, 1, 1, 1))
	}
	says(t, e, order(4, 99, at("a", "y"), true, 1, 1, 1), api.Reply{Err: api.ErrFull}, true)
}

// P13.3
func TestReading(t *testing.T) {
	e := econ.New()
	if len(e.Keys()) != 0 || len(e.Transits()) != 0 {
		t.Error(e.Keys(), e.Transits())
	}
	if total, good := e.Total(); !good || total != (items{}) {
		t.Error(total, good)
	}
	for i, key := range []string{"b", "a", "\xff", "B", "ab"} {
		says(t, e, mint(2, 1+i, at(key, "x"), 1, 9), ok, true)
		says(t, e, send(2, 10+i, at(key, "x"), by, 1, 1), ok, true)
		says(t, e, mint(2, 20+10*i, at(key, "x"), 0, 1), ok, true)
		e, _ = econ.Decode(forget(t, e))
	}
	if !slices.Equal(e.Keys(), []string{"B", "a", "ab", "b", "\xff"}) {
		t.Errorf("%q", e.Keys())
	}
	if total, good := e.Total(); !good || total != (items{5, 40}) {
		t.Error("without what is under way:", total, good)
	}
	says(t, e, send(1, 99, at("a", "x"), by, 1, 1), ok, true)
	says(t, e, send(3, 1, at("a", "x"), by, 1, 1), ok, true)
	var l [][2]int
	for _, tr := range e.Transits() {
		l = append(l, [2]int{tr.Client, tr.Seq})
	}
	if !slices.Equal(l, [][2]int{{1, 99}, {2, 10}, {2, 11}, {2, 12}, {2, 13}, {2, 14}, {3, 1}}) {
		t.Error(l)
	}
	has(t, e, at("nowhere", "x"), items{})
	has(t, e, at("", ""), items{})
	two := econ.New()
	for i := range 2 {
		more, _ := econ.Decode(bytes.Replace(economy(vaultOf("x", items{most}), nil, nil, nil), []byte{1, 'k'}, []byte{1, byte('k' + i)}, 1))
		two.Join(more)
	}
	if total, good := two.Total(); good || total != (items{}) {
		t.Error("too much in all", total, good)
	}
}

// forget is an economy's bytes without its sessions.
func forget(t *testing.T, e *econ.Econ) []byte {
	t.Helper()
	r := octet.NewReader(e.Encode())
	var w octet.Writer
	n := r.Num()
	w.Nums(n)
	for range n {
		w.Bytes(r.Bytes(), r.Bytes())
	}
	for range r.Num() {
		r.Nums(nil, nil)
		r.Bytes()
	}
	w.Nums(0)
	w.Raw(r.Raw(r.Left())...)
	return w.Out()
}

func TestAVaultThatIsNone(t *testing.T) {
	e := econ.New()
	says(t, e, look(1, 1, ax), ok, true)
	says(t, e, mint(1, 2, ax, 0, 5), ok, true)
	says(t, e, send(1, 3, ax, by, 0, 5), ok, true)
	if len(e.Keys()) != 0 {
		t.Error("nothing is there:", e.Keys())
	}
	says(t, e, mint(1, 4, ax, 1, 5), ok, true)
	says(t, e, order(1, 5, ax, false, 1, 5, 1), api.Reply{ID: 1}, true)
	says(t, e, api.Op{Kind: api.OpCancel, Client: 1, Seq: 6, At: ax, ID: 1}, ok, true)
	says(t, e, send(1, 7, ax, by, 1, 5), ok, true)
	if !slices.Equal(e.Keys(), []string{"a"}) {
		t.Error("the next ID is not 1:", e.Keys())
	}
	says(t, e, mint(1, 8, ax, 1, 5), ok, true)
	says(t, e, order(1, 9, ax, false, 1, 5, 1), api.Reply{ID: 2}, true)
}

// P13.4

// full is an economy with keys a to e, things under way from all of them, and arrivals.
func full(t *testing.T) *econ.Econ {
	e := econ.New()
	for i, key := range []string{"a", "b", "c", "d", "e"} {
		says(t, e, mint(1, 1+2*i, at(key, "x"), 1, 9), ok, true)
		says(t, e, send(1, 2+2*i, at(key, "x"), at("q", "z"), 1, 1), ok, true)
	}
	says(t, e, send(1, 11, at("b", "x"), by, 1, 9), api.Reply{Err: api.ErrFunds}, true)
	says(t, e, mint(7, 3, at("d", "y"), 0, 2), ok, true)
	says(t, e, arrive(9, 9, at("a", "x"), 2, 1), ok, true)
	return e
}

func TestCut(t *testing.T) {
	e := full(t)
	out := e.Cut(api.Span{From: "b", To: "d"})
	if !slices.Equal(e.Keys(), []string{"a", "d", "e"}) || !slices.Equal(out.Keys(), []string{"b", "c"}) {
		t.Error(e.Keys(), out.Keys())
	}
	seqs := func(e *econ.Econ) (l []int) {
		for _, tr := range e.Transits() {
			l = append(l, tr.Seq)
		}
		return l
	}
	if !slices.Equal(seqs(e), []int{2, 8, 10}) || !slices.Equal(seqs(out), []int{4, 6}) {
		t.Error(seqs(e), seqs(out))
	}
	for _, e := range []*econ.Econ{e, out} {
		if !e.Arrived(9, 9) {
			t.Error("what arrived both have")
		}
		says(t, e, look(7, 3, ax), ok, false)
		says(t, e, look(1, 11, ax), api.Reply{Err: api.ErrFunds}, false)
		says(t, e, look(1, 10, ax), api.Reply{Err: api.ErrOld}, false)
	}
	has(t, out, at("b", "x"), items{0, 8})
	has(t, e, at("b", "x"), items{})
	// the two go on for themselves
	says(t, e, mint(7, 4, at("a", "x"), 0, 2), ok, true)
	says(t, out, mint(7, 4, at("b", "x"), 0, 2), ok, true)
	says(t, e, arrive(8, 8, at("a", "x"), 0, 2), ok, true)
	if out.Arrived(8, 8) {
		t.Error("they share what arrived")
	}
	none := full(t)
	if out := none.Cut(api.Span{From: "z", To: "a"}); len(out.Keys()) != 0 || len(none.Keys()) != 5 || len(out.Transits()) != 0 || !out.Arrived(9, 9) {
		t.Error("by no span", out.Keys())
	}
}

func TestJoin(t *testing.T) {
	e := full(t)
	if err := e.Join(nil); err != api.ErrArg {
		t.Error(err)
	}
	if err := e.Join(e); err != api.ErrArg {
		t.Error(err)
	}
	was := e.Encode()
	key := econ.New()
	says(t, key, mint(5, 1, at("c", "other"), 0, 1), ok, true)
	says(t, key, mint(5, 2, at("z", "other"), 0, 1), ok, true)
	if err := e.Join(key); err != api.ErrHas || !bytes.Equal(e.Encode(), was) {
		t.Error("both have a key", err)
	}
	way := econ.New()
	says(t, way, mint(1, 1, at("z", "x"), 0, 1), ok, true)
	says(t, way, send(1, 4, at("z", "x"), by, 0, 1), ok, true)
	if err := e.Join(way); err != api.ErrHas || !bytes.Equal(e.Encode(), was) {
		t.Error("both have something under way", err)
	}
	o := econ.New()
	says(t, o, mint(1, 50, at("z", "x"), 0, 5), ok, true)
	says(t, o, send(1, 60, at("z", "x"), by, 0, 9), api.Reply{Err: api.ErrFunds}, true)
	says(t, o, look(7, 3, at("z", "x")), api.Reply{Has: items{5}}, true)
	says(t, o, look(6, 2, at("z", "x")), api.Reply{Has: items{5}}, true)
	says(t, o, arrive(9, 10, at("z", "x"), 0, 1), ok, true)
	if err := e.Join(o); err != api.OK {
		t.Fatal(err)
	}
	if !slices.Equal(e.Keys(), []string{"a", "b", "c", "d", "e", "z"}) || !e.Arrived(9, 9) || !e.Arrived(9, 10) {
		t.Error(e.Keys())
	}
	says(t, e, look(1, 60, ax), api.Reply{Err: api.ErrFunds}, false) // the greater Seq
	says(t, e, look(7, 3, ax), ok, false)                            // alike: its own
	says(t, e, look(6, 2, ax), api.Reply{Has: items{5}}, false)
	lesser := econ.New()
	says(t, lesser, look(1, 5, ax), ok, true)
	if err := e.Join(lesser); err != api.OK {
		t.Fatal(err)
	}
	says(t, e, look(1, 60, ax), api.Reply{Err: api.ErrFunds}, false)
}

// P13.5

type row = func(w *octet.Writer)

// economy is an economy's bytes by hand: a vault at k, and rows of sessions, of what is under way, of what arrived.
func economy(v []byte, sessions, transits, arrived []row) []byte {
	var w octet.Writer
	if v == nil {
		w.Nums(0)
	} else {
		w.Nums(1)
		w.Bytes([]byte("k"), v)
	}
	for _, rows := range [][]row{sessions, transits, arrived} {
		w.Nums(len(rows))
		for _, r := range rows {
			r(&w)
		}
	}
	return w.Out()
}

func vaultOf(who string, has items) []byte {
	v := vault.New()
	v.Put(who, has)
	return v.Encode()
}

func session(client, seq int, reply api.Reply) row {
	return func(w *octet.Writer) {
		w.Nums(client, seq)
		b, _ := op.EncodeReply(reply)
		w.Bytes(b)
	}
}

func under(client, seq int, p, to api.Place, item, count int) row {
	return func(w *octet.Writer) {
		w.Nums(client, seq)
		w.Bytes([]byte(p.Key), []byte(p.Who), []byte(to.Key), []byte(to.Who))
		w.Nums(item, count)
	}
}

func nums(v ...int) row { return func(w *octet.Writer) { w.Nums(v...) } }

func TestEncode(t *testing.T) {
	if b := econ.New().Encode(); !bytes.Equal(b, []byte{0, 0, 0, 0}) {
		t.Errorf("% x", b)
	}
	e := econ.New()
	says(t, e, mint(300, 1, at("k", "x"), 1, 9), ok, true)
	says(t, e, send(2, 7, at("k", "x"), by, 1, 2), ok, true)
	says(t, e, look(300, 2, at("k", "x")), api.Reply{Has: items{0, 7}}, true)
	says(t, e, arrive(9, 300, at("k", "z"), 0, 1), ok, true)
	says(t, e, arrive(9, 2, at("k", "z"), 0, 1), ok, true)
	says(t, e, arrive(8, 999, at("k", "z"), 0, 1), ok, true)
	v := vault.New()
	v.Put("x", items{0, 7})
	v.Put("z", items{3})
	hand := economy(v.Encode(),
		[]row{session(2, 7, ok), session(300, 2, api.Reply{Has: items{0, 7}})},
		[]row{under(2, 7, at("k", "x"), by, 1, 2)},
		[]row{nums(8, 999), nums(9, 2), nums(9, 300)})
	if b := e.Encode(); !bytes.Equal(b, hand) {
		t.Errorf("% x\nnot\n% x", b, hand)
	}
	back, err := econ.Decode(hand)
	if err != api.OK || !bytes.Equal(back.Encode(), hand) {
		t.Error(err)
	}
}

func TestDecodeErrForm(t *testing.T) {
	v := vaultOf("x", items{1})
	good := economy(v, []row{session(1, 1, ok)}, []row{under(2, 7, ax, by, 1, 2)}, []row{nums(1, 1)})
	if _, err := econ.Decode(good); err != api.OK {
		t.Fatal(err)
	}
	keys := func(keys ...string) []byte {
		var w octet.Writer
		w.Nums(len(keys))
		for _, key := range keys {
			w.Bytes([]byte(key), v)
		}
		w.Nums(0, 0, 0)
		return w.Out()
	}
	if _, err := econ.Decode(keys("a", long)); err != api.OK {
		t.Error(err)
	}
	badReply := func(w *octet.Writer) { w.Nums(1, 1); w.Bytes([]byte{20, 0, 0, 0, 0, 0}) }
	for name, b := range map[string][]byte{
		"nothing":               nil,
		"less":                  good[:len(good)-1],
		"more":                  append(bytes.Clone(good), 0),
		"very many":             {0xff, 0xff, 0xff, 0xff, 0xff, 0xff, 0xff, 0x3f},
		"no key":                keys(""),
		"a long key":            keys(long + "k"),
		"keys fall":             keys("b", "a"),
		"a key twice":           keys("a", "a"),
		"a vault that is none":  economy(vault.New().Encode(), nil, nil, nil),
		"no vault":              economy([]byte{9}, nil, nil, nil),
		"Client 0":              economy(nil, []row{session(0, 1, ok)}, nil, nil),
		"a great Client":        economy(nil, []row{session(1<<20+1, 1, ok)}, nil, nil),
		"Seq 0":                 economy(nil, []row{session(1, 0, ok)}, nil, nil),
		"a great Seq":           economy(nil, []row{session(1, 1<<40+1, ok)}, nil, nil),
		"Clients fall":          economy(nil, []row{session(2, 1, ok), session(1, 2, ok)}, nil, nil),
		"a Client twice":        economy(nil, []row{session(1, 1, ok), session(1, 2, ok)}, nil, nil),
		"no reply":              economy(nil, []row{badReply}, nil, nil),
		"sent by Client 0":      economy(nil, nil, []row{under(0, 7, ax, by, 1, 2)}, nil),
		"sent of Seq 0":         economy(nil, nil, []row{under(1, 0, ax, by, 1, 2)}, nil),
		"sent from nowhere":     economy(nil, nil, []row{under(1, 7, at("", "x"), by, 1, 2)}, nil),
		"sent to nobody":        economy(nil, nil, []row{under(1, 7, ax, at("b", ""), 1, 2)}, nil),
		"sent of item 4":        economy(nil, nil, []row{under(1, 7, ax, by, 4, 2)}, nil),
		"sent of none":          economy(nil, nil, []row{under(1, 7, ax, by, 1, 0)}, nil),
		"sent of too many":      economy(nil, nil, []row{under(1, 7, ax, by, 1, api.MaxCount+1)}, nil),
		"sent out of order":     economy(nil, nil, []row{under(1, 7, ax, by, 1, 2), under(1, 6, ax, by, 1, 2)}, nil),
		"sent out of order too": economy(nil, nil, []row{under(2, 7, ax, by, 1, 2), under(1, 9, ax, by, 1, 2)}, nil),
		"sent twice":            economy(nil, nil, []row{under(1, 7, ax, by, 1, 2), under(1, 7, ax, by, 1, 2)}, nil),
		"arrived of Client 0":   economy(nil, nil, nil, []row{nums(0, 1)}),
		"arrived of Seq 0":      economy(nil, nil, nil, []row{nums(1, 0)}),
		"arrived of a great":    economy(nil, nil, nil, []row{nums(1<<20+1, 1)}),
		"arrived of great Seq":  economy(nil, nil, nil, []row{nums(1, 1<<40+1)}),
		"arrived out of order":  economy(nil, nil, nil, []row{nums(1, 2), nums(1, 1)}),
		"arrived twice":         economy(nil, nil, nil, []row{nums(1, 2), nums(1, 2)}),
	} {
		if e, err := econ.Decode(b); err != api.ErrForm || e != nil {
			t.Error(name, err)
		}
	}
	bounds := economy(nil, []row{session(1<<20, 1<<40, api.Reply{Err: 19})}, []row{under(1<<20, 1<<40, ax, ax, 0, api.MaxCount)}, []row{nums(1<<20, 1<<40)})
	if e, err := econ.Decode(bounds); err != api.OK || !bytes.Equal(e.Encode(), bounds) {
		t.Error("at the bounds", err)
	}
}

// P13.6

// some is a request drawn.
func some(draw *rand.Rand, seq *[5]int) api.Op {
	client := 1 + draw.Intn(4)
	if draw.Intn(8) > 0 {
		seq[client]++
	}
	p := at(string(rune('a'+draw.Intn(6))), fmt.Sprint("w", draw.Intn(3)))
	o := api.Op{Kind: 1 + draw.Intn(7), Client: client, Seq: max(1, seq[client]), At: p}
	switch o.Kind {
	case api.OpMint:
		o.Item, o.Count = draw.Intn(4), 1+draw.Intn(40)
	case api.OpSend:
		o.To, o.Item, o.Count = at(string(rune('a'+draw.Intn(6))), "w1"), draw.Intn(4), 1+draw.Intn(9)
	case api.OpOrder:
		o.Item, o.Count, o.Price, o.Buy = 1+draw.Intn(3), 1+draw.Intn(5), 1+draw.Intn(5), draw.Intn(2) == 0
	case api.OpCancel:
		o.ID = 1 + draw.Intn(9)
	case api.OpArrive:
		o.Seq, o.Item, o.Count = 1+draw.Intn(50), draw.Intn(4), 1+draw.Intn(9)
	case api.OpDone:
		o.Seq = 1 + draw.Intn(50)
	}
	return o
}

func TestJoinOfCutIsWhatWasThere(t *testing.T) {
	draw := rand.New(rand.NewSource(10))
	for range 60 {
		e := econ.New()
		var seq [5]int
		for range 120 {
			e.Apply(some(draw, &seq))
		}
		was := e.Encode()
		total, _ := e.Total()
		out := e.Cut(api.Span{From: string(rune('a' + draw.Intn(6))), To: []string{"", "zz"}[draw.Intn(2)]})
		a, _ := e.Total()
		b, _ := out.Total()
		for k := range total {
			if a[k]+b[k] != total[k] {
				t.Fatal(a, b, total)
			}
		}
		if draw.Intn(2) == 0 {
			e, out = out, e
		}
		if err := e.Join(out); err != api.OK || !bytes.Equal(e.Encode(), was) {
			t.Fatal(err)
		}
		back, err := econ.Decode(was)
		if err != api.OK || !bytes.Equal(back.Encode(), was) {
			t.Fatal("Decode of Encode", err)
		}
		// and both go on alike
		for range 40 {
			o := some(draw, &seq)
			r1, ok1 := e.Apply(o)
			r2, ok2 := back.Apply(o)
			if r1 != r2 || ok1 != ok2 {
				t.Fatal(o, r1, r2)
			}
		}
	}
}

func TestNewMemory(t *testing.T) {
	e := full(t)
	was := e.Encode()
	b := e.Encode()
	back, _ := econ.Decode(b)
	clear(b)
	l, keys := e.Transits(), e.Keys()
	l[0].Count, keys[0] = 99, "q"
	if !bytes.Equal(e.Encode(), was) || !bytes.Equal(back.Encode(), was) {
		t.Error("memory is shared")
	}
	kept := slices.Clone(l)
	e.Apply(send(1, 40, at("e", "x"), by, 1, 1))
	if !reflect.DeepEqual(l, kept) {
		t.Error("an answer changed")
	}
}

func TestNilEcon(t *testing.T) {
	var e *econ.Econ
	if r, ok := e.Apply(look(1, 1, ax)); r != (api.Reply{Err: api.ErrArg}) || ok {
		t.Error(r, ok)
	}
	if r, ok := e.Peek(look(1, 1, ax)); r != (api.Reply{Err: api.ErrArg}) || !ok {
		t.Error(r, ok)
	}
	if err := e.Join(econ.New()); err != api.ErrArg {
		t.Error(err)
	}
	has(t, e, ax, items{})
	if total, ok := e.Total(); ok || total != (items{}) || len(e.Keys()) != 0 || len(e.Transits()) != 0 || e.Arrived(1, 1) || e.Cut(api.Span{}) != nil || len(e.Encode()) != 0 {
		t.Error("a nil Econ has something")
	}
}
