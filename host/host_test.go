package host_test

import (
	"bytes"
	"fmt"
	"math"
	"reflect"
	"slices"
	"strings"
	"testing"

	"satrapy/api"
	"satrapy/disk"
	"satrapy/econ"
	"satrapy/host"
	"satrapy/keep"
	"satrapy/load"
	"satrapy/octet"
	"satrapy/op"
	"satrapy/wire"
	"satrapy/zone"
)

const top = 1 << 40

func fresh(t *testing.T) *disk.Disk {
	t.Helper()
	d, err := disk.New(1 << 22)
	if err != api.OK {
		t.Fatal(err)
	}
	return d
}

func open(t *testing.T, id int, d *disk.Disk) *host.Host {
	t.Helper()
	h, err := host.Open(id, d, 1)
	if err != api.OK || h == nil {
		t.Fatal("Open:", err)
	}
	return h
}

func want(t *testing.T, what string, got, want api.Errno) {
	t.Helper()
	if got != want {
		t.Errorf("%s: %v, not %v", what, got, want)
	}
}

func at(key, who string) api.Place { return api.Place{Key: key, Who: who} }

func mint(seq int, key string, count int) api.Op {
	return api.Op{Kind: api.OpMint, Client: 1, Seq: seq, At: at(key, "x"), Count: count}
}

func sends(seq int, from, to string, count int) api.Op {
	return api.Op{Kind: api.OpSend, Client: 1, Seq: seq, At: at(from, "x"), To: at(to, "y"), Count: count}
}

func arrive(o api.Op) api.Op {
	return api.Op{Kind: api.OpArrive, Client: o.Client, Seq: o.Seq, At: o.To, Item: o.Item, Count: o.Count}
}

func done(o api.Op) api.Op {
	return api.Op{Kind: api.OpDone, Client: o.Client, Seq: o.Seq, At: o.At}
}

func image(l ...api.Op) []byte {
	e := econ.New()
	for _, o := range l {
		e.Apply(o)
	}
	return e.Encode()
}

func head(id int, from, to string, epoch, state int) zone.Head {
	return zone.Head{ID: id, Span: api.Span{From: from, To: to}, Epoch: epoch, State: state}
}

// z is a zone of a map, without anything under way.
func z(id int, from, to string, owner, epoch int) api.Zone {
	return api.Zone{ID: id, Span: api.Span{From: from, To: to}, Owner: owner, Epoch: epoch}
}

func moves(z api.Zone, to int) api.Zone {
	z.Pend, z.To = api.DirMove, to
	return z
}

func splits(z api.Zone, key string, other int) api.Zone {
	z.Pend, z.Key, z.New = api.DirSplit, key, other
	return z
}

func merges(z api.Zone, other int) api.Zone {
	z.Pend, z.New = api.DirMerge, other
	return z
}

func msg(t *testing.T, from, to int, w wire.Word) api.Msg {
	t.Helper()
	b, err := wire.Encode(w)
	if err != api.OK {
		t.Fatal(w, err)
	}
	return api.Msg{From: from, To: to, Data: b}
}

func tell(t *testing.T, to, version int, zones ...api.Zone) api.Msg {
	t.Helper()
	return msg(t, 0, to, wire.Word{Kind: wire.Tell, Map: api.Map{Version: version, Next: 90, Zones: zones}})
}

func call(t *testing.T, to int, o api.Op) api.Msg {
	t.Helper()
	return msg(t, 32, to, wire.Word{Kind: wire.Call, Op: o})
}

func answer(o api.Op, reply api.Reply) wire.Word {
	return wire.Word{Kind: wire.Answer, Op: api.Op{Kind: o.Kind, Client: o.Client, Seq: o.Seq}, Reply: reply}
}

func refused(o api.Op, err api.Errno, to int) wire.Word {
	return wire.Word{Kind: wire.Answer, Op: api.Op{Kind: o.Kind, Client: o.Client, Seq: o.Seq}, Err: err, Host: to}
}

func askDone(id, epoch int) wire.Word {
	return wire.Word{Kind: wire.Ask, Change: api.Change{Kind: api.DirDone, Zone: id, Epoch: epoch}}
}

func pull(version int) wire.Word { return wire.Word{Kind: wire.Pull, Index: version} }

// out is a word, and to whom it goes.
type out struct {
	to int
	w  wire.Word
}

func is(t *testing.T, what string, from int, got []api.Msg, want ...out) {
	t.Helper()
	var l []api.Msg
	for _, o := range want {
		l = append(l, msg(t, from, o.to, o.w))
	}
	if len(got) == len(l) && (len(l) == 0 || reflect.DeepEqual(got, l)) {
		return
	}
	t.Errorf("%s sends", what)
	for _, m := range got {
		w, _ := wire.Decode(m.Data)
		t.Errorf("   %d: %+v", m.To, w)
	}
	t.Error("not")
	for _, o := range want {
		t.Errorf("   %d: %+v", o.to, o.w)
	}
}

func has(t *testing.T, what string, h *host.Host, want ...zone.Head) {
	t.Helper()
	if got := h.Zones(); !slices.Equal(got, want) {
		t.Errorf("%s: zones %v, not %v", what, got, want)
	}
}

func ticks(h *host.Host, n int) (l []api.Msg) {
	for range n {
		l = h.Tick()
	}
	return l
}

// serving is host 8 with zone 1, of all keys, by a map of Version 1.
func serving(t *testing.T, d *disk.Disk) *host.Host {
	t.Helper()
	h := open(t, 8, d)
	is(t, "a first map", 8, h.Hear(tell(t, 8, 1, z(1, "", "", 8, 1))))
	has(t, "a first map", h, head(1, "", "", 1, api.Serving))
	return h
}

func does(t *testing.T, h *host.Host, l ...api.Op) {
	t.Helper()
	for _, o := range l {
		is(t, "a Call", 8, h.Hear(call(t, 8, o)), out{32, answer(o, api.Reply{})})
	}
}

// with is host 8 on a disk with these zones.
func with(t *testing.T, d *disk.Disk, floor int, zones map[zone.Head][]byte) *host.Host {
	t.Helper()
	for h, img := range zones {
		if _, err := zone.Make(d, h, 5, img); err != api.OK {
			t.Fatal(h, err)
		}
	}
	if floor > 0 {
		var w octet.Writer
		w.Nums(floor)
		keep.Save(d, "host", w.Out())
	}
	return open(t, 8, d)
}

// P24.1
func TestOpenErrs(t *testing.T) {
	d := fresh(t)
	for _, c := range []struct {
		id, seats int
		d         *disk.Disk
	}{{7, 1, d}, {14, 1, d}, {-1, 1, d}, {math.MaxInt, 1, d}, {8, 0, d}, {8, 4, d}, {8, math.MinInt, d}, {8, 1, nil}} {
		if h, err := host.Open(c.id, c.d, c.seats); h != nil || err != api.ErrArg {
			t.Error(c, err)
		}
	}
	if h, err := host.Open(13, d, 3); h == nil || err != api.OK || len(d.List()) != 0 {
		t.Error(err, d.List())
	}
	nums := func(v ...int) []byte {
		var w octet.Writer
		w.Nums(v...)
		return w.Out()
	}
	for name, b := range map[string][]byte{"nothing": nil, "more": nums(1, 2), "too great": nums(top + 1), "a torn one": {0x80}} {
		d := fresh(t)
		keep.Save(d, "host", b)
		if h, err := host.Open(8, d, 1); h != nil || err != api.ErrForm {
			t.Error(name, err)
		}
	}
	d = fresh(t)
	keep.Save(d, "host", nums(top))
	if h, err := host.Open(8, d, 1); h == nil || err != api.OK {
		t.Error("the greatest floor", err)
	}
	d = fresh(t)
	d.Append("host", []byte("no record"))
	if h, err := host.Open(8, d, 1); h != nil || err != api.ErrForm {
		t.Error(err)
	}
	for name, c := range map[string]struct {
		file string
		want api.Errno
	}{
		"no zone": {"z3-img", api.ErrForm}, "a great ID": {"z9999999-img", api.ErrArg}, "a greater ID": {"z1048577-img", api.ErrArg},
		"too many digits": {"z99999999-img", api.OK}, "a nought ahead": {"z03-img", api.OK}, "no digits": {"z-img", api.OK}, "a sign": {"z+3-img", api.OK}, "a letter": {"zx-img", api.OK}, "no z": {"3-img", api.OK}, "a log": {"z3-log", api.OK}, "more": {"z3-img~", api.OK},
	} {
		d := fresh(t)
		d.Append(c.file, []byte("none"))
		if h, err := host.Open(8, d, 1); err != c.want || (h == nil) != (err != api.OK) {
			t.Error(name, err)
		}
	}
	d = fresh(t)
	d.Append("z10-img", []byte("none"))
	d.Append("z1048577-img", []byte("none"))
	d.Append("z2-img", nil)
	if _, err := host.Open(8, d, 1); err != api.ErrForm {
		t.Error("by N", err)
	}
	d = fresh(t)
	zone.Make(d, head(1, "", "", 1, 1), 0, image())
	d.Append("z1-log", []byte("torn"))
	d.Fuse(0)
	if h, err := host.Open(8, d, 1); h != nil || err != api.ErrDead {
		t.Error(err)
	}
}

func TestOpen(t *testing.T) {
	d := fresh(t)
	for _, id := range []int{20, 3, 100} {
		made, _ := zone.Make(d, head(id, "", "", 7, api.Serving), 0, image())
		made.Do(mint(1, "a", id))
	}
	coming, _ := zone.Make(d, head(50, "", "", 7, api.Coming), 0, image())
	b, _ := op.Encode(mint(1, "a", 5))
	coming.Ship(1, b)
	keep.Save(d, "z4-img", []byte{0, 0}) // number 0, no data: there is none
	h := open(t, 8, d)
	has(t, "Open", h, head(3, "", "", 7, 1), head(20, "", "", 7, 1), head(50, "", "", 7, 3), head(100, "", "", 7, 1))
	l := h.Events()
	if !slices.Equal(l, []zone.Event{{Zone: 3, Index: 1, Op: mint(1, "a", 3)}, {Zone: 20, Index: 1, Op: mint(1, "a", 20)}, {Zone: 100, Index: 1, Op: mint(1, "a", 100)}}) {
		t.Error(l)
	}
	if len(h.Events()) != 0 || h.Dead() || !reflect.DeepEqual(h.Map(), api.Map{}) {
		t.Error("at first")
	}
	if id, ok := h.Serves("a"); ok || id != 0 {
		t.Error("without a map nothing is served")
	}
}

// P24.2
func TestTickPulls(t *testing.T) {
	h, _ := host.Open(8, fresh(t), 3)
	for n := 1; n <= 40; n++ {
		if n == 20 {
			h.Hear(tell(t, 8, 7, z(1, "", "", 9, 1)))
		}
		version := 0
		if n >= 20 {
			version = 7
		}
		l := h.Tick()
		if n%api.Again == 0 {
			is(t, "an Again-th Tick", 8, l, out{0, pull(version)}, out{1, pull(version)}, out{2, pull(version)})
		} else {
			is(t, "a Tick", 8, l)
		}
	}
}

func TestTheLease(t *testing.T) {
	h := serving(t, fresh(t))
	serves := func(want bool) {
		t.Helper()
		id, ok := h.Serves("a")
		if ok != want || ok != (id == 1) {
			t.Error("Serves", id, ok, want)
		}
		o := api.Op{Kind: api.OpLook, Client: 1, Seq: 1, At: at("a", "x")}
		w := answer(o, api.Reply{})
		if !want {
			w = refused(o, api.ErrLease, 0)
		}
		is(t, "a Call", 8, h.Hear(call(t, 8, o)), out{32, w})
	}
	serves(true)
	ticks(h, api.Lease)
	serves(true)
	ticks(h, 1)
	serves(false)
	h.Hear(tell(t, 8, 1, z(1, "", "", 8, 1)))
	serves(true)
	ticks(h, api.Lease+1)
	serves(false)
	if _, ok := h.At(at("a", "x")); !ok {
		t.Error("At asks for no lease")
	}
	h.Hear(tell(t, 8, 2, z(1, "", "", 8, 1)))
	ticks(h, api.Lease)
	h.Hear(tell(t, 8, 1, z(1, "", "", 8, 1)))
	serves(true)
	ticks(h, 1)
	serves(false) // what is below its map's Version it does not hear
}

func TestWhatIsUnderWayArrives(t *testing.T) {
	h := serving(t, fresh(t))
	near := sends(2, "a", "b", 3)
	does(t, h, mint(1, "a", 9), near)
	h.Events()
	is(t, "a Tick", 8, ticks(h, 3))
	if got, ok := h.At(at("b", "y")); !ok || got != (api.Items{}) {
		t.Error(got, ok)
	}
	is(t, "the Again-th", 8, ticks(h, 1), out{0, pull(1)})
	if got, _ := h.At(at("b", "y")); got != (api.Items{3}) || len(h.Econ(1).Transits()) != 0 {
		t.Error(got)
	}
	if l := h.Events(); !slices.Equal(l, []zone.Event{{Zone: 1, Index: 3, Op: arrive(near)}, {Zone: 1, Index: 4, Op: done(near)}}) {
		t.Error(l)
	}
	ticks(h, api.Again)
	if l := h.Events(); len(l) != 0 {
		t.Error("once", l)
	}
}

func TestWhatIsUnderWayToAnotherHost(t *testing.T) {
	d := fresh(t)
	h := with(t, d, 0, map[zone.Head][]byte{
		head(1, "", "m", 2, api.Serving):  image(mint(1, "a", 9), sends(2, "a", "q", 3), sends(3, "a", "p", 1), sends(4, "a", "b", 1)),
		head(3, "x", "", 2, api.Frozen):   image(mint(5, "x", 9), sends(6, "x", "q", 3)),
		head(4, "m", "n", 2, api.Serving): image(mint(7, "m", 9), sends(8, "m", "q", 2)),
	})
	h.Hear(tell(t, 8, 5, z(1, "", "m", 8, 2), z(4, "m", "n", 8, 2), z(2, "n", "x", 9, 2), moves(z(3, "x", "", 8, 2), 9)))
	calls := []out{{0, pull(5)}, {9, wire.Word{Kind: wire.Call, Op: arrive(sends(2, "a", "q", 3))}}, {9, wire.Word{Kind: wire.Call, Op: arrive(sends(3, "a", "p", 1))}}, {9, wire.Word{Kind: wire.Call, Op: arrive(sends(8, "m", "q", 2))}}}
	for range 2 { // again and again
		l := ticks(h, api.Again)
		is(t, "calls", 8, l[:len(calls)], calls...)
		if w, _ := wire.Decode(l[len(calls)].Data); len(l) != len(calls)+1 || w.Kind != wire.Copy {
			t.Error(w)
		}
	}
	// the answers
	a := answer(arrive(sends(3, "a", "p", 1)), api.Reply{})
	for name, m := range map[string]api.Msg{
		"from a gate": msg(t, 32, 8, a), "from none": msg(t, 14, 8, a), "from below": msg(t, 7, 8, a),
		"an Err":                 msg(t, 9, 8, refused(arrive(sends(3, "a", "p", 1)), api.ErrLease, 0)),
		"a Reply's Err":          msg(t, 9, 8, answer(arrive(sends(3, "a", "p", 1)), api.Reply{Err: api.ErrFull})),
		"of another Kind":        msg(t, 9, 8, answer(sends(3, "a", "p", 1), api.Reply{})),
		"nothing under way":      msg(t, 9, 8, answer(arrive(sends(9, "a", "p", 1)), api.Reply{})),
		"of one that is Frozen":  msg(t, 9, 8, answer(arrive(sends(6, "x", "q", 1)), api.Reply{})),
		"to another one":         msg(t, 9, 9, a),
		"of one that is done by": msg(t, 9, 8, answer(arrive(sends(4, "a", "b", 1)), api.Reply{})),
	} {
		h.Events()
		is(t, name, 8, h.Hear(m))
		if l := h.Events(); len(l) != 0 {
			t.Error(name, l)
		}
	}
	is(t, "an Answer", 8, h.Hear(msg(t, 9, 8, a)))
	if l := h.Events(); len(l) != 1 || l[0].Op != done(sends(3, "a", "p", 1)) || l[0].Zone != 1 {
		t.Error(l)
	}
	is(t, "an Answer", 8, h.Hear(msg(t, 9, 8, a)))
	if l := h.Events(); len(l) != 0 {
		t.Error("once", l)
	}
	ticks(h, api.Lease+1)
	h.Events()
	h.Hear(msg(t, 9, 8, answer(arrive(sends(2, "a", "q", 3)), api.Reply{})))
	if l := h.Events(); len(l) != 0 {
		t.Error("without the lease", l)
	}
	l := ticks(h, 3)
	is(t, "without the lease", 8, l, out{0, pull(5)})
}

// P24.2, P24.3: a zone goes
func TestAZoneGoes(t *testing.T) {
	h := serving(t, fresh(t))
	does(t, h, mint(1, "a", 5), mint(2, "b", 6))
	is(t, "it moves", 8, h.Hear(tell(t, 8, 2, moves(z(1, "", "", 8, 1), 9))))
	is(t, "not yet", 8, ticks(h, 3))
	img := image(mint(1, "a", 5), mint(2, "b", 6))
	copied := wire.Word{Kind: wire.Copied, Zone: 1, Epoch: 2, Index: 2, Offset: len(img)}
	is(t, "no source yet", 8, h.Hear(msg(t, 9, 8, copied)))
	first := wire.Word{Kind: wire.Copy, Zone: 1, Epoch: 2, Index: 2, Size: len(img), Data: img}
	is(t, "an image", 8, ticks(h, 1), out{0, pull(2)}, out{9, first})
	does(t, h, mint(3, "c", 7), mint(4, "c", 8), mint(5, "c", 9), mint(6, "c", 1))
	ship := func(index, seq, count int) wire.Word {
		b, _ := op.Encode(mint(seq, "c", count))
		return wire.Word{Kind: wire.Ship, Zone: 1, Epoch: 2, Index: index, Data: b}
	}
	is(t, "a word that is none", 8, h.Hear(msg(t, 9, 8, wire.Word{Kind: wire.Copied, Zone: 3, Epoch: 2, Index: 2, Offset: 9})))
	is(t, "it has come", 8, h.Hear(msg(t, 9, 8, copied)), out{9, ship(3, 3, 7)})
	is(t, "a Lag of 4", 8, ticks(h, 4), out{0, pull(2)}, out{9, ship(3, 3, 7)})
	has(t, "a Lag of 4", h, head(1, "", "", 1, api.Serving))
	shipped := func(index int) wire.Word { return wire.Word{Kind: wire.Shipped, Zone: 1, Epoch: 2, Index: index} }
	is(t, "one more", 8, h.Hear(msg(t, 9, 8, shipped(3))), out{9, ship(4, 4, 8)})
	is(t, "a Lag of 3", 8, ticks(h, 4), out{0, pull(2)}, out{9, ship(4, 4, 8)})
	has(t, "a Lag of 3", h, head(1, "", "", 1, api.Serving))
	is(t, "one more", 8, h.Hear(msg(t, 9, 8, shipped(4))), out{9, ship(5, 5, 9)})
	img = image(mint(1, "a", 5), mint(2, "b", 6), mint(3, "c", 7), mint(4, "c", 8), mint(5, "c", 9), mint(6, "c", 1))
	is(t, "a Lag of 2: frozen", 8, ticks(h, 4), out{0, pull(2)}, out{9, wire.Word{Kind: wire.Copy, Zone: 1, Epoch: 2, Index: 6, Size: len(img), Data: img}})
	has(t, "a Lag of 2", h, head(1, "", "", 1, api.Frozen))
	o := mint(7, "a", 1)
	is(t, "a Call", 8, h.Hear(call(t, 8, o)), out{32, refused(o, api.ErrMoved, 0)})
	is(t, "an Ask", 8, h.Hear(msg(t, 9, 8, shipped(6))))
	for range 2 {
		is(t, "again", 8, ticks(h, 4), out{0, pull(2)}, out{0, askDone(1, 1)})
	}
	is(t, "it is done", 8, h.Hear(tell(t, 8, 3, z(1, "", "", 9, 2))))
	has(t, "it is done", h)
	is(t, "a Call", 8, h.Hear(call(t, 8, o)), out{32, refused(o, api.ErrMoved, 9)})
	is(t, "no source", 8, h.Hear(msg(t, 9, 8, shipped(6))))
}

func TestALagOfNothing(t *testing.T) {
	h := serving(t, fresh(t))
	h.Hear(tell(t, 8, 2, moves(z(1, "", "", 8, 1), 9)))
	ticks(h, 4)
	h.Hear(msg(t, 9, 8, wire.Word{Kind: wire.Copied, Zone: 1, Epoch: 2, Index: 0, Offset: 4}))
	has(t, "not frozen by a word", h, head(1, "", "", 1, api.Serving))
	is(t, "frozen, and asked", 8, ticks(h, 4), out{0, pull(2)}, out{0, askDone(1, 1)})
	has(t, "frozen", h, head(1, "", "", 1, api.Frozen))
	h.Hear(tell(t, 8, 3, z(1, "", "", 8, 2)))
	has(t, "aborted: it serves again", h, head(1, "", "", 2, api.Serving))
	h.Hear(tell(t, 8, 4, moves(z(1, "", "", 8, 2), 10)))
	img := image()
	is(t, "another source", 8, ticks(h, 4), out{0, pull(4)}, out{10, wire.Word{Kind: wire.Copy, Zone: 1, Epoch: 3, Index: 0, Size: len(img), Data: img}})
	h.Hear(msg(t, 9, 8, wire.Word{Kind: wire.Shipped, Zone: 1, Epoch: 2, Index: 0}))
	is(t, "a word of the old one", 8, ticks(h, 4), out{0, pull(4)}, out{10, wire.Word{Kind: wire.Copy, Zone: 1, Epoch: 3, Index: 0, Size: len(img), Data: img}})
}

// P24.3
func TestHearNothing(t *testing.T) {
	h := serving(t, fresh(t))
	good := call(t, 8, mint(1, "a", 5))
	spoilt := bytes.Clone(good.Data)
	spoilt[15] ^= 1
	for name, m := range map[string]api.Msg{
		"to another one": call(t, 9, mint(1, "a", 5)),
		"nothing":        {From: 32, To: 8},
		"spoilt":         {From: 32, To: 8, Data: spoilt},
		"no word":        {From: 32, To: 8, Data: []byte("none")},
		"Raft":           msg(t, 0, 8, wire.Word{Kind: wire.Raft, Data: []byte("x")}),
		"a Pull":         msg(t, 9, 8, pull(0)),
		"an Ask":         msg(t, 9, 8, askDone(1, 1)),
		"an elder map":   tell(t, 8, 1, z(1, "", "", 9, 9)),
	} {
		is(t, name, 8, h.Hear(m))
		has(t, name, h, head(1, "", "", 1, api.Serving))
	}
	if len(h.Events()) != 0 || h.Map().Zones[0].Owner != 8 {
		t.Error("something was done")
	}
}

func TestTellAndTheFloor(t *testing.T) {
	d := fresh(t)
	h := serving(t, d)
	h.Hear(tell(t, 8, 5, z(1, "", "", 8, 1)))
	if h.Map().Version != 5 {
		t.Error(h.Map())
	}
	h.Hear(tell(t, 8, 4, z(1, "", "", 9, 7)))
	if h.Map().Version != 5 {
		t.Error(h.Map())
	}
	if b, err := keep.Load(d, "host"); err != api.OK || !bytes.Equal(b, []byte{5}) {
		t.Error(b, err)
	}
	d.Crash(0)
	h = open(t, 8, d)
	h.Hear(tell(t, 8, 4, z(1, "", "", 8, 1)))
	if _, ok := h.Serves("a"); ok || h.Map().Version != 0 {
		t.Error("below the floor", h.Map())
	}
	h.Hear(tell(t, 8, 5, z(1, "", "", 8, 1)))
	if _, ok := h.Serves("a"); !ok || h.Map().Version != 5 {
		t.Error("the floor itself", h.Map())
	}
}

func TestCalls(t *testing.T) {
	h := open(t, 8, fresh(t))
	o := mint(1, "a", 5)
	is(t, "no map", 8, h.Hear(call(t, 8, o)), out{32, refused(o, api.ErrLease, 0)})
	h.Hear(tell(t, 8, 3, z(1, "", "m", 8, 1), z(2, "m", "", 11, 1)))
	is(t, "done", 8, h.Hear(call(t, 8, o)), out{32, answer(o, api.Reply{})})
	is(t, "known", 8, h.Hear(call(t, 8, o)), out{32, answer(o, api.Reply{})})
	look := api.Op{Kind: api.OpLook, Client: 1, Seq: 2, At: at("a", "x")}
	is(t, "a look", 8, h.Hear(call(t, 8, look)), out{32, answer(look, api.Reply{Has: api.Items{5}})})
	is(t, "old", 8, h.Hear(call(t, 8, o)), out{32, answer(o, api.Reply{Err: api.ErrOld})})
	poor := sends(3, "b", "c", 9)
	is(t, "an error of the request", 8, h.Hear(call(t, 8, poor)), out{32, answer(poor, api.Reply{Err: api.ErrFunds})})
	far := mint(4, "q", 1)
	is(t, "another host's", 8, h.Hear(call(t, 8, far)), out{32, refused(far, api.ErrMoved, 11)})
	come := arrive(sends(3, "q", "b", 9))
	is(t, "from a host", 8, h.Hear(msg(t, 11, 8, wire.Word{Kind: wire.Call, Op: come})), out{11, answer(come, api.Reply{})})
	if l := h.Events(); len(l) != 4 || l[0].Op != o || l[1].Op != look || l[2].Op != poor || l[3].Op != come || l[3].Index != 4 {
		t.Error(l)
	}
	if l := h.Loads(); !slices.Equal(l, []load.Row{{Zone: 1, Hits: 6, Middle: "a"}}) {
		t.Error(l)
	}
	h.Fade()
	if l := h.Loads(); !slices.Equal(l, []load.Row{{Zone: 1, Hits: 3, Middle: "a"}}) {
		t.Error(l)
	}
	h.Hear(tell(t, 8, 4, moves(z(1, "", "m", 8, 1), 9), z(2, "m", "", 11, 1)))
	ticks(h, 4)
	h.Hear(msg(t, 9, 8, wire.Word{Kind: wire.Shipped, Zone: 1, Epoch: 2, Index: 4}))
	ticks(h, 4)
	is(t, "its own, but frozen", 8, h.Hear(call(t, 8, mint(9, "a", 5))), out{32, refused(mint(9, "a", 5), api.ErrMoved, 0)})
}

// a zone comes
func TestAZoneComes(t *testing.T) {
	d := fresh(t)
	h, _ := host.Open(9, d, 1)
	img := image(mint(1, "a", 5))
	cp := func(epoch int) api.Msg {
		return msg(t, 8, 9, wire.Word{Kind: wire.Copy, Zone: 1, Epoch: epoch, Index: 7, Size: len(img), Data: img})
	}
	b, _ := op.Encode(mint(2, "b", 6))
	ship := func(epoch, index int) api.Msg {
		return msg(t, 8, 9, wire.Word{Kind: wire.Ship, Zone: 1, Epoch: epoch, Index: index, Data: b})
	}
	is(t, "no map", 9, h.Hear(cp(2)))
	h.Hear(tell(t, 9, 1, z(1, "", "", 8, 1)))
	is(t, "it does not move", 9, h.Hear(cp(2)))
	h.Hear(tell(t, 9, 2, moves(z(1, "", "", 8, 1), 10)))
	is(t, "it moves elsewhere", 9, h.Hear(cp(2)))
	h.Hear(tell(t, 9, 3, moves(z(1, "", "", 8, 1), 9)))
	is(t, "another epoch", 9, h.Hear(cp(1)))
	is(t, "another epoch", 9, h.Hear(cp(3)))
	is(t, "a Ship without a zone", 9, h.Hear(ship(2, 8)))
	is(t, "a Copy", 9, h.Hear(cp(2)), out{8, wire.Word{Kind: wire.Copied, Zone: 1, Epoch: 2, Index: 7, Offset: len(img)}})
	has(t, "a Copy", h, head(1, "", "", 2, api.Coming))
	is(t, "a Ship", 9, h.Hear(ship(2, 8)), out{8, wire.Word{Kind: wire.Shipped, Zone: 1, Epoch: 2, Index: 8}})
	is(t, "once more", 9, h.Hear(ship(2, 8)), out{8, wire.Word{Kind: wire.Shipped, Zone: 1, Epoch: 2, Index: 8}})
	if _, ok := h.Serves("a"); ok || len(h.Events()) != 0 {
		t.Error("it is Coming")
	}
	if _, ok := h.At(at("a", "x")); ok {
		t.Error("At of one that is Coming")
	}
	d.Crash(0)
	h, _ = host.Open(9, d, 1)
	h.Hear(tell(t, 9, 3, moves(z(1, "", "", 8, 1), 9)))
	has(t, "behind a crash", h, head(1, "", "", 2, api.Coming))
	is(t, "behind a crash", 9, h.Hear(cp(2)), out{8, wire.Word{Kind: wire.Shipped, Zone: 1, Epoch: 2, Index: 8}})
	h.Hear(tell(t, 9, 4, z(1, "", "", 9, 2)))
	has(t, "it is here", h, head(1, "", "", 2, api.Serving))
	if id, ok := h.Serves("a"); id != 1 || !ok {
		t.Error(id, ok)
	}
	if got, ok := h.At(at("b", "x")); !ok || got != (api.Items{6}) {
		t.Error(got, ok)
	}
	is(t, "late", 9, h.Hear(cp(2)))
	is(t, "late", 9, h.Hear(ship(2, 9)))
	if len(h.Events()) != 0 {
		t.Error("nothing was done here")
	}
}

func TestAZoneComesInPieces(t *testing.T) {
	var l []api.Op
	for i := range 60 {
		l = append(l, api.Op{Kind: api.OpMint, Client: 1, Seq: i + 1, At: at("a", fmt.Sprint("somebody ", i)), Count: 5})
	}
	img := image(l...)
	h := open(t, 8, fresh(t))
	for _, m := range []api.Msg{tell(t, 8, 2, splits(z(1, "", "", 9, 1), "m", 3)), tell(t, 8, 3, z(1, "", "", 8, 1)), tell(t, 8, 4, moves(z(2, "", "", 9, 1), 8)), tell(t, 8, 5, moves(z(1, "", "", 9, 1), 8))} {
		h.Hear(m)
		piece := func(offset int) api.Msg {
			end := min(len(img), offset+api.Chunk)
			return msg(t, 9, 8, wire.Word{Kind: wire.Copy, Zone: 1, Epoch: 2, Index: 7, Size: len(img), Offset: offset, Data: img[offset:end]})
		}
		if h.Map().Version < 5 {
			is(t, "it does not come", 8, h.Hear(piece(0)))
			continue
		}
		for at := 0; at < len(img); at += api.Chunk {
			is(t, "a piece", 8, h.Hear(piece(at)), out{9, wire.Word{Kind: wire.Copied, Zone: 1, Epoch: 2, Index: 7, Offset: min(len(img), at+api.Chunk)}})
		}
		has(t, "all pieces", h, head(1, "", "", 2, api.Coming))
	}
	if !bytes.Equal(h.Econ(1).Encode(), img) {
		t.Error("another economy has come")
	}
}

func TestSourcesThatAreNoMore(t *testing.T) {
	for name, m := range map[string]api.Zone{"aborted": z(1, "", "", 8, 2), "moved on": moves(z(1, "", "", 8, 2), 10), "split": splits(z(1, "", "", 8, 2), "m", 3)} {
		h := serving(t, fresh(t))
		does(t, h, mint(1, "a", 5))
		h.Hear(tell(t, 8, 2, moves(z(1, "", "", 8, 1), 9)))
		ticks(h, 4)
		h.Hear(tell(t, 8, 3, m))
		is(t, name, 8, h.Hear(msg(t, 9, 8, wire.Word{Kind: wire.Copied, Zone: 1, Epoch: 2, Index: 1})))
		is(t, name, 8, h.Hear(msg(t, 9, 8, wire.Word{Kind: wire.Copied, Zone: 1, Epoch: 3, Index: 1})))
	}
	h := serving(t, fresh(t))
	h.Hear(tell(t, 8, 2, moves(z(1, "", "", 8, 1), 9)))
	ticks(h, 4)
	h.Hear(tell(t, 8, 3, moves(z(1, "", "", 8, 1), 9)))
	if l := h.Hear(msg(t, 9, 8, wire.Word{Kind: wire.Copied, Zone: 1, Epoch: 2})); len(l) != 1 {
		t.Error("it still moves", l)
	}
}

func TestACopyOfWhatItHas(t *testing.T) {
	for _, state := range []int{api.Serving, api.Frozen} {
		h := with(t, fresh(t), 2, map[zone.Head][]byte{head(1, "", "", 2, state): image()})
		h.Hear(tell(t, 8, 3, moves(z(1, "", "", 9, 1), 8)))
		has(t, "it has it", h, head(1, "", "", 2, state))
		is(t, "it has it", 8, h.Hear(msg(t, 9, 8, wire.Word{Kind: wire.Copy, Zone: 1, Epoch: 2, Index: 7, Size: 4, Data: image()})))
		has(t, "it has it", h, head(1, "", "", 2, state))
	}
}

func TestAnImageThatIsNone(t *testing.T) {
	h := open(t, 8, fresh(t))
	h.Hear(tell(t, 8, 3, moves(z(1, "", "", 9, 1), 8)))
	is(t, "no economy", 8, h.Hear(msg(t, 9, 8, wire.Word{Kind: wire.Copy, Zone: 1, Epoch: 2, Index: 7, Size: 4, Data: []byte("none")})))
	if h.Dead() || len(h.Zones()) != 0 {
		t.Error("ErrForm ends no host")
	}
	is(t, "a good one", 8, h.Hear(msg(t, 9, 8, wire.Word{Kind: wire.Copy, Zone: 1, Epoch: 2, Index: 7, Size: 4, Data: image()})), out{9, wire.Word{Kind: wire.Copied, Zone: 1, Epoch: 2, Index: 7, Offset: 4}})
}

// P24.4
func TestTheFirstZone(t *testing.T) {
	d := fresh(t)
	h := open(t, 8, d)
	h.Hear(tell(t, 8, 4, z(1, "", "m", 8, 3), z(2, "m", "", 8, 3)))
	has(t, "the first of all", h, head(1, "", "m", 3, api.Serving))
	if !bytes.Equal(h.Econ(1).Encode(), image()) || h.Econ(2) != nil {
		t.Error("an economy of nothing")
	}
	h = with(t, fresh(t), 1, nil)
	h.Hear(tell(t, 8, 4, z(1, "", "", 8, 3)))
	has(t, "the floor is not 0", h)
	h = open(t, 9, fresh(t))
	h.Hear(tell(t, 9, 4, z(1, "", "", 8, 3)))
	has(t, "another one's", h)
	h = open(t, 8, fresh(t))
	h.Hear(tell(t, 8, 4, z(2, "", "", 8, 3)))
	has(t, "not zone 1", h)
	h = with(t, fresh(t), 0, map[zone.Head][]byte{head(1, "", "", 1, api.Frozen): image(mint(1, "a", 5))})
	h.Hear(tell(t, 8, 4, z(1, "", "", 8, 3)))
	if has(t, "it is there", h, head(1, "", "", 3, api.Serving)); h.Econ(1).At(at("a", "x")) != (api.Items{5}) {
		t.Error("it is not made anew")
	}
}

func TestTheFloorIsSaved(t *testing.T) {
	d := fresh(t)
	h := with(t, d, 300, nil)
	d.Fuse(0)
	h.Hear(tell(t, 8, 300, z(1, "", "", 9, 3)))
	if h.Dead() || h.Map().Version != 300 {
		t.Error("nothing is written, if it is not above")
	}
	d.Fuse(3)
	h.Hear(tell(t, 8, 301, z(1, "", "", 9, 3)))
	want(t, "three things", d.Append("q"), api.ErrDead)
	d.Fuse(-1)
	if b, err := keep.Load(d, "host"); err != api.OK || !bytes.Equal(b, []byte{0xad, 2}) || h.Dead() {
		t.Error(b, err)
	}
}

func TestItServesAnew(t *testing.T) {
	for name, c := range map[string]struct {
		there, want zone.Head
		m           api.Zone
	}{
		"Coming, of its Epoch":          {head(1, "", "", 2, api.Coming), head(1, "", "", 2, api.Serving), z(1, "", "", 8, 2)},
		"Coming, and it moves on":       {head(1, "", "", 2, api.Coming), head(1, "", "", 2, api.Serving), moves(z(1, "", "", 8, 2), 9)},
		"Serving, of a lesser one":      {head(1, "", "", 2, api.Serving), head(1, "", "", 4, api.Serving), z(1, "", "", 8, 4)},
		"Frozen, of a lesser one":       {head(1, "", "", 2, api.Frozen), head(1, "", "", 4, api.Serving), z(1, "", "", 8, 4)},
		"Serving, of its Epoch":         {head(1, "", "", 2, api.Serving), head(1, "", "", 2, api.Serving), z(1, "", "", 8, 2)},
		"Frozen, of its Epoch":          {head(1, "", "", 2, api.Frozen), head(1, "", "", 2, api.Frozen), moves(z(1, "", "", 8, 2), 9)},
		"Serving, of a greater one":     {head(1, "", "", 5, api.Serving), head(1, "", "", 5, api.Serving), z(1, "", "", 8, 2)},
		"Coming, of a lesser one":       {head(1, "", "", 1, api.Coming), zone.Head{}, z(1, "", "", 8, 2)},
		"Coming, of a greater one":      {head(1, "", "", 3, api.Coming), zone.Head{}, z(1, "", "", 8, 2)},
		"Coming, as it is to":           {head(1, "", "", 3, api.Coming), head(1, "", "", 3, api.Coming), moves(z(1, "", "", 9, 2), 8)},
		"Coming, elsewhere":             {head(1, "", "", 3, api.Coming), zone.Head{}, moves(z(1, "", "", 9, 2), 10)},
		"Coming, of another Epoch":      {head(1, "", "", 2, api.Coming), zone.Head{}, moves(z(1, "", "", 9, 2), 8)},
		"Coming, not moving":            {head(1, "", "", 3, api.Coming), zone.Head{}, z(1, "", "", 9, 2)},
		"Coming, not there":             {head(1, "", "", 3, api.Coming), zone.Head{}, z(2, "", "", 9, 2)},
		"Serving, another's, greater":   {head(1, "", "", 2, api.Serving), zone.Head{}, z(1, "", "", 9, 3)},
		"Frozen, another's, greater":    {head(1, "", "", 2, api.Frozen), zone.Head{}, z(1, "", "", 9, 3)},
		"Serving, another's, its Epoch": {head(1, "", "", 2, api.Serving), head(1, "", "", 2, api.Serving), z(1, "", "", 9, 2)},
		"Serving, not there":            {head(1, "", "", 2, api.Serving), zone.Head{}, z(2, "", "", 9, 2)},
		"Serving, not there, split":     {head(1, "", "", 2, api.Serving), zone.Head{}, splits(z(2, "", "", 9, 2), "m", 1)},
		"Serving, split off":            {head(1, "", "", 2, api.Serving), head(1, "", "", 2, api.Serving), splits(z(2, "", "", 8, 2), "m", 1)},
		"Frozen, split off of no other": {head(1, "", "", 2, api.Frozen), zone.Head{}, splits(z(2, "", "", 8, 2), "m", 3)},
	} {
		d := fresh(t)
		h := with(t, d, 1, map[zone.Head][]byte{c.there: image(mint(1, "a", 5))})
		h.Hear(tell(t, 8, 4, c.m))
		if c.want.ID == 0 {
			has(t, name, h)
			if l := d.List(); !slices.Equal(l, []string{"host"}) {
				t.Error(name, l)
			}
			continue
		}
		has(t, name, h, c.want)
		if h.Econ(1).At(at("a", "x")) != (api.Items{5}) {
			t.Error(name, "what it has is gone")
		}
		d.Crash(0)
		has(t, name+", behind a crash", open(t, 8, d), c.want)
	}
}

func TestSplit(t *testing.T) {
	d := fresh(t)
	h := serving(t, d)
	does(t, h, mint(1, "a", 5), mint(2, "p", 6), sends(3, "p", "zz", 2), mint(4, "q", 1))
	is(t, "a split", 8, h.Hear(tell(t, 8, 2, splits(z(1, "", "", 8, 1), "m", 7))), out{0, askDone(1, 1)})
	check := func(what string, h *host.Host) {
		t.Helper()
		has(t, what, h, head(1, "", "m", 2, api.Serving), head(7, "m", "", 2, api.Serving))
		if !slices.Equal(h.Econ(1).Keys(), []string{"a"}) || !slices.Equal(h.Econ(7).Keys(), []string{"p", "q"}) || len(h.Econ(1).Transits()) != 0 || len(h.Econ(7).Transits()) != 1 {
			t.Error(what, h.Econ(1).Keys(), h.Econ(7).Keys())
		}
	}
	check("a split", h)
	is(t, "it asks again", 8, ticks(h, 4), out{0, pull(2)}, out{0, askDone(1, 1)})
	h.Events()
	does(t, h, mint(5, "p", 1), mint(6, "b", 1))
	if l := h.Events(); len(l) != 2 || l[0].Zone != 7 || l[0].Index != 7 || l[1].Zone != 1 || l[1].Index != 5 {
		t.Error("numbers go on", l)
	}
	d.Crash(0)
	h = open(t, 8, d)
	is(t, "behind a crash", 8, h.Hear(tell(t, 8, 2, splits(z(1, "", "", 8, 1), "m", 7))), out{0, askDone(1, 1)})
	is(t, "it is done", 8, h.Hear(tell(t, 8, 3, z(1, "", "m", 8, 2), z(7, "m", "", 8, 2))))
	has(t, "it is done", h, head(1, "", "m", 2, api.Serving), head(7, "m", "", 2, api.Serving))
	is(t, "nothing is asked", 8, ticks(h, 4), out{0, pull(3)})
	if id, ok := h.Serves("p"); id != 7 || !ok {
		t.Error(id, ok)
	}
}

func TestASplitThatCrashes(t *testing.T) {
	m := splits(z(1, "", "", 8, 1), "m", 7)
	for fuse := range 20 {
		for draw := range 6 {
			d := fresh(t)
			h := serving(t, d)
			does(t, h, mint(1, "a", 5), mint(2, "p", 6), mint(3, "q", 1))
			d.Fuse(fuse)
			l := h.Hear(tell(t, 8, 2, m))
			if h.Dead() {
				is(t, "of a dead host", 8, l)
			}
			d.Crash(draw * 11)
			h = open(t, 8, d)
			if _, ok := h.Serves("a"); ok {
				t.Error("without a map")
			}
			is(t, "once more", 8, h.Hear(tell(t, 8, 2, m)), out{0, askDone(1, 1)})
			has(t, fmt.Sprint("fuse ", fuse), h, head(1, "", "m", 2, api.Serving), head(7, "m", "", 2, api.Serving))
			if !slices.Equal(h.Econ(1).Keys(), []string{"a"}) || !slices.Equal(h.Econ(7).Keys(), []string{"p", "q"}) {
				t.Error(h.Econ(1).Keys(), h.Econ(7).Keys())
			}
			does(t, h, mint(9, "p", 1))
		}
	}
}

func TestMerge(t *testing.T) {
	d := fresh(t)
	h := with(t, d, 1, map[zone.Head][]byte{head(3, "", "m", 2, api.Serving): image(mint(1, "a", 5)), head(7, "m", "", 6, api.Serving): image(mint(2, "p", 6))})
	h.Hear(tell(t, 8, 4, z(3, "", "m", 8, 2), z(7, "m", "", 8, 6)))
	does(t, h, mint(3, "p", 6))
	is(t, "a merge", 8, h.Hear(tell(t, 8, 5, merges(z(3, "", "m", 8, 2), 7), merges(z(7, "m", "", 8, 6), 3))), out{0, askDone(3, 2)})
	has(t, "a merge", h, head(3, "", "", 7, api.Serving))
	if !slices.Equal(h.Econ(3).Keys(), []string{"a", "p"}) || h.Econ(3).At(at("p", "x")) != (api.Items{12}) || h.Econ(7) != nil {
		t.Error(h.Econ(3).Keys())
	}
	if l := h.Loads(); len(l) != 0 {
		t.Error("what is Dropped is Gone", l)
	}
	if l := h.Events(); len(l) != 1 || l[0].Zone != 7 {
		t.Error("what a zone told that goes", l)
	}
	is(t, "it asks again", 8, ticks(h, 4), out{0, pull(5)}, out{0, askDone(3, 2)})
	does(t, h, mint(4, "q", 6))
	d.Crash(0)
	h = open(t, 8, d)
	is(t, "it is done", 8, h.Hear(tell(t, 8, 6, z(3, "", "", 8, 7))))
	has(t, "it is done", h, head(3, "", "", 7, api.Serving))
}

func TestAMergeThatCrashes(t *testing.T) {
	a, b := merges(z(3, "", "m", 8, 2), 7), merges(z(7, "m", "", 8, 6), 3)
	for fuse := range 20 {
		for draw := range 6 {
			d := fresh(t)
			h := with(t, d, 1, map[zone.Head][]byte{head(3, "", "m", 2, api.Serving): image(mint(1, "a", 5)), head(7, "m", "", 6, api.Serving): image(mint(2, "p", 6))})
			d.Fuse(fuse)
			h.Hear(tell(t, 8, 5, a, b))
			d.Crash(draw * 11)
			h = open(t, 8, d)
			is(t, "once more", 8, h.Hear(tell(t, 8, 5, a, b)), out{0, askDone(3, 2)})
			has(t, fmt.Sprint("fuse ", fuse), h, head(3, "", "", 7, api.Serving))
			if !slices.Equal(h.Econ(3).Keys(), []string{"a", "p"}) {
				t.Error(h.Econ(3).Keys())
			}
		}
	}
}

func TestAMergeThatIsNotHere(t *testing.T) {
	a, b := merges(z(3, "", "m", 8, 2), 7), merges(z(7, "m", "", 8, 6), 3)
	h := with(t, fresh(t), 1, map[zone.Head][]byte{head(3, "", "m", 2, api.Serving): image(mint(1, "a", 5))})
	is(t, "the other one is not here", 8, h.Hear(tell(t, 8, 5, a, b)))
	has(t, "the other one is not here", h, head(3, "", "m", 2, api.Serving))
	h = with(t, fresh(t), 1, map[zone.Head][]byte{head(7, "m", "", 6, api.Serving): image()})
	is(t, "the one ahead is not here", 8, h.Hear(tell(t, 8, 5, a, b)))
	has(t, "the one ahead is not here", h, head(7, "m", "", 6, api.Serving))
}

// an error of the disk
func TestDead(t *testing.T) {
	for name, f := range map[string]func(h *host.Host) []api.Msg{
		"a Call": func(h *host.Host) []api.Msg { return h.Hear(call(t, 8, mint(9, "a", 1))) },
		"a Tell": func(h *host.Host) []api.Msg { return h.Hear(tell(t, 8, 2, z(1, "", "", 8, 1))) },
		"a Tick": func(h *host.Host) []api.Msg { return ticks(h, 4) },
	} {
		d := fresh(t)
		h := serving(t, d)
		does(t, h, mint(1, "a", 9), sends(2, "a", "b", 3))
		d.Fuse(0)
		is(t, name, 8, f(h))
		d.Fuse(-1)
		if !h.Dead() {
			t.Error(name, "it lives")
		}
		is(t, name, 8, h.Hear(call(t, 8, mint(9, "a", 1))))
		is(t, name, 8, ticks(h, 9))
		has(t, name, h)
		h.Fade()
		if _, ok := h.Serves("a"); ok || len(h.Loads()) != 0 || h.Econ(1) != nil || !reflect.DeepEqual(h.Map(), api.Map{}) {
			t.Error(name, "a dead one says something")
		}
		if _, ok := h.At(at("a", "x")); ok {
			t.Error(name, "At")
		}
		if l := h.Events(); len(l) != 2 {
			t.Error(name, "but Events:", l)
		}
		if len(h.Events()) != 0 {
			t.Error(name, "once")
		}
	}
}

func TestACopyThatTheDiskRefuses(t *testing.T) {
	d := fresh(t)
	h := open(t, 8, d)
	h.Hear(tell(t, 8, 3, moves(z(1, "", "", 9, 1), 8)))
	d.Fuse(1)
	is(t, "a Copy", 8, h.Hear(msg(t, 9, 8, wire.Word{Kind: wire.Copy, Zone: 1, Epoch: 2, Index: 7, Size: 4, Data: image()})))
	if !h.Dead() {
		t.Error("it lives")
	}
}

func TestEventsWhenItDies(t *testing.T) {
	d := fresh(t)
	h := serving(t, d)
	for i := range api.MaxLog - 1 {
		does(t, h, mint(i+1, "a", 1))
	}
	h.Events()
	d.Fuse(3)
	is(t, "the Write behind it errs", 8, h.Hear(call(t, 8, mint(99, "a", 1))))
	if l := h.Events(); !h.Dead() || len(l) != 1 || l[0].Op != mint(99, "a", 1) {
		t.Error(l)
	}
}

// P24.5
func TestReading(t *testing.T) {
	h := with(t, fresh(t), 1, map[zone.Head][]byte{
		head(3, "", "m", 2, api.Serving): image(mint(1, "a", 5)),
		head(7, "m", "p", 2, api.Frozen): image(mint(2, "n", 6)),
		head(5, "p", "", 2, api.Serving): image(mint(3, "q", 7)),
	})
	h.Hear(tell(t, 8, 4, z(3, "", "m", 8, 2), moves(z(7, "m", "p", 8, 2), 9), z(5, "p", "", 8, 2)))
	has(t, "by IDs", h, head(3, "", "m", 2, api.Serving), head(5, "p", "", 2, api.Serving), head(7, "m", "p", 2, api.Frozen))
	for key, want := range map[string]int{"a": 3, "lz": 3, "m": 0, "n": 0, "p": 5, "\xff": 5, "": 0, strings.Repeat("a", 17): 0} {
		if id, ok := h.Serves(key); id != want || ok != (want != 0) {
			t.Errorf("Serves(%q): %d, %v", key, id, ok)
		}
	}
	for key, want := range map[string]int{"a": 5, "n": -1, "q": 7, "b": 0, "": -1} {
		got, ok := h.At(at(key, "x"))
		if ok != (want >= 0) || got != (api.Items{max(want, 0)}) {
			t.Errorf("At(%q): %v, %v", key, got, ok)
		}
	}
	if h.Econ(7).At(at("n", "x")) != (api.Items{6}) || h.Econ(4) != nil || h.Econ(-1) != nil {
		t.Error("Econ")
	}
	m := h.Map()
	if m.Version != 4 || len(m.Zones) != 3 {
		t.Error(m)
	}
	m.Zones[0].Owner = 9
	if h.Map().Zones[0].Owner != 8 {
		t.Error("Map shares memory")
	}
}

func TestNewMemory(t *testing.T) {
	h := serving(t, fresh(t))
	m := call(t, 8, mint(1, "a", 5))
	was := bytes.Clone(m.Data)
	l := h.Hear(m)
	if !bytes.Equal(m.Data, was) {
		t.Error("a message changed")
	}
	clear(m.Data)
	clear(l[0].Data)
	m = tell(t, 8, 2, splits(z(1, "", "", 8, 1), "m", 7))
	h.Hear(m)
	clear(m.Data)
	if got, _ := h.At(at("a", "x")); got != (api.Items{5}) || h.Map().Version != 2 {
		t.Error(got)
	}
	two, _ := host.Open(8, fresh(t), 2)
	l = ticks(two, 4)
	clear(l[0].Data)
	is(t, "each message has its own memory", 8, l[1:], out{1, pull(0)})
}

func TestNilHost(t *testing.T) {
	var h *host.Host
	is(t, "nil", 8, h.Tick())
	is(t, "nil", 8, h.Hear(call(t, 8, mint(1, "a", 5))))
	has(t, "nil", h)
	h.Fade()
	if id, ok := h.Serves("a"); ok || id != 0 || len(h.Loads()) != 0 || len(h.Events()) != 0 || h.Econ(1) != nil || h.Dead() || !reflect.DeepEqual(h.Map(), api.Map{}) {
		t.Error("a nil Host")
	}
	if got, ok := h.At(at("a", "x")); ok || got != (api.Items{}) {
		t.Error(got)
	}
}
