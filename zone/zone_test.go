package zone_test

import (
	"bytes"
	"fmt"
	"math"
	"slices"
	"strings"
	"testing"

	"satrapy/api"
	"satrapy/disk"
	"satrapy/econ"
	"satrapy/keep"
	"satrapy/ledger"
	"satrapy/octet"
	"satrapy/op"
	"satrapy/zone"
)

const (
	maxID = 1 << 20
	top   = 1 << 40
)

func fresh(t *testing.T) *disk.Disk {
	t.Helper()
	d, err := disk.New(1 << 22)
	if err != api.OK {
		t.Fatal(err)
	}
	return d
}

func want(t *testing.T, what string, got, want api.Errno) {
	t.Helper()
	if got != want {
		t.Errorf("%s: %v, not %v", what, got, want)
	}
}

func head(epoch, state int) zone.Head { return zone.Head{ID: 1, Epoch: epoch, State: state} }

func nothing() []byte { return econ.New().Encode() }

// made is zone 1 of all keys and Epoch 1, at number 0.
func made(t *testing.T, d *disk.Disk, state int) *zone.Zone {
	t.Helper()
	z, err := zone.Make(d, head(1, state), 0, nothing())
	if err != api.OK || z == nil {
		t.Fatal("Make:", err)
	}
	return z
}

func open(t *testing.T, d *disk.Disk) *zone.Zone {
	t.Helper()
	z, err := zone.Open(d, 1)
	if err != api.OK || z == nil {
		t.Fatal("Open:", err)
	}
	return z
}

func mint(seq int, key string, count int) api.Op {
	return api.Op{Kind: api.OpMint, Client: 1, Seq: seq, At: api.Place{Key: key, Who: "x"}, Count: count}
}

func bytesOf(o api.Op) []byte {
	b, _ := op.Encode(o)
	return b
}

// image is the economy that these come to.
func image(l ...api.Op) []byte {
	e := econ.New()
	for _, o := range l {
		e.Apply(o)
	}
	return e.Encode()
}

// does lets a zone do requests that are answered OK.
func does(t *testing.T, z *zone.Zone, l ...api.Op) {
	t.Helper()
	for _, o := range l {
		if r, err := z.Do(o); err != api.OK || r.Err != api.OK {
			t.Fatal(o, r, err)
		}
	}
}

// data is a ledger's data by hand.
func data(h zone.Head, image []byte) []byte {
	var w octet.Writer
	w.Nums(h.ID)
	w.Bytes([]byte(h.Span.From), []byte(h.Span.To))
	w.Nums(h.Epoch, h.State)
	w.Bytes(image)
	return w.Out()
}

// state is all of a zone that lasts.
func state(z *zone.Zone) string { return fmt.Sprintf("%v %d %x", z.Head(), z.Last(), z.Image()) }

func errOf(z *zone.Zone, err api.Errno) api.Errno {
	if (z == nil) == (err == api.OK) {
		return -1
	}
	return err
}

// wrong is heads that may not be.
func wrong() map[string]zone.Head {
	m := map[string]zone.Head{}
	with := func(name string, f func(h *zone.Head)) {
		h := head(1, api.Serving)
		f(&h)
		m[name] = h
	}
	for _, n := range []int{0, -1, math.MinInt, math.MaxInt} {
		with(fmt.Sprint("ID ", n), func(h *zone.Head) { h.ID = n })
		with(fmt.Sprint("Epoch ", n), func(h *zone.Head) { h.Epoch = n })
		with(fmt.Sprint("State ", n), func(h *zone.Head) { h.State = n })
	}
	with("a great ID", func(h *zone.Head) { h.ID = maxID + 1 })
	with("a great Epoch", func(h *zone.Head) { h.Epoch = top + 1 })
	with("State 4", func(h *zone.Head) { h.State = 4 })
	with("no Span", func(h *zone.Head) { h.Span = api.Span{From: "b", To: "a"} })
	return m
}

// P15.1
func TestMakeErrs(t *testing.T) {
	d := fresh(t)
	want(t, "no disk", errOf(zone.Make(nil, head(1, 1), 0, nothing())), api.ErrArg)
	for name, h := range wrong() {
		want(t, name, errOf(zone.Make(d, h, 0, nil)), api.ErrArg)
	}
	want(t, "no economy", errOf(zone.Make(d, head(1, 1), 0, []byte("none"))), api.ErrForm)
	h := zone.Head{ID: 1, Span: api.Span{From: "b", To: "d"}, Epoch: 1, State: 1}
	want(t, "a key ahead", errOf(zone.Make(d, h, 0, image(mint(1, "a", 1)))), api.ErrForm)
	want(t, "a key behind", errOf(zone.Make(d, h, 0, image(mint(1, "d", 1)))), api.ErrForm)
	want(t, "below 0", errOf(zone.Make(d, h, -1, nothing())), api.ErrArg)
	want(t, "a great number", errOf(zone.Make(d, h, top+1, nothing())), api.ErrArg)
	if len(d.List()) != 0 {
		t.Error(d.List())
	}
	d.Fuse(2)
	want(t, "an error of the disk", errOf(zone.Make(d, h, 0, nothing())), api.ErrDead)
	d.Fuse(-1)
	d.Append("z1-img", []byte("none"))
	want(t, "no ledger", errOf(zone.Make(d, h, 0, nothing())), api.ErrForm)
	d = fresh(t)
	l, _ := ledger.Open(d, "z1")
	l.Write(7, nil)
	want(t, "a ledger with a greater number", errOf(zone.Make(d, head(1, 1), 6, nothing())), api.ErrArg)
	l, _ = ledger.Open(d, "z1")
	l.Append([]byte("x"))
	want(t, "a ledger with a greater number", errOf(zone.Make(d, head(1, 1), 7, nothing())), api.ErrArg)
	want(t, "of the same number", errOf(zone.Make(d, head(1, 1), 8, nothing())), api.OK)
}

func TestMake(t *testing.T) {
	d := fresh(t)
	h := zone.Head{ID: maxID, Span: api.Span{From: "b", To: "d"}, Epoch: top, State: api.Frozen}
	img := image(mint(1, "b", 1), mint(2, "cz", 2))
	z, err := zone.Make(d, h, 77, img)
	if err != api.OK || z.Head() != h || z.Last() != 77 || !bytes.Equal(z.Image(), img) || len(z.Events()) != 0 {
		t.Error(err, state(z))
	}
	d.Crash(0)
	if !slices.Equal(d.List(), []string{"z1048576-img"}) {
		t.Error(d.List())
	}
	var w octet.Writer
	w.Nums(77)
	w.Bytes(data(h, img))
	if b, err := keep.Load(d, "z1048576-img"); err != api.OK || !bytes.Equal(b, w.Out()) {
		t.Errorf("% x", b)
	}
	if back, err := zone.Open(d, maxID); err != api.OK || state(back) != state(z) {
		t.Error(err, state(back))
	}
}

func TestOpenErrs(t *testing.T) {
	want(t, "no disk", errOf(zone.Open(nil, 1)), api.ErrArg)
	d := fresh(t)
	for _, id := range []int{0, -1, maxID + 1, math.MinInt, math.MaxInt} {
		want(t, "an ID", errOf(zone.Open(d, id)), api.ErrArg)
	}
	want(t, "nothing there", errOf(zone.Open(d, 1)), api.ErrNone)
	for name, b := range map[string][]byte{
		"none":         []byte("none"),
		"more":         append(data(head(1, 1), nothing()), 0),
		"another ID":   data(zone.Head{ID: 2, Epoch: 1, State: 1}, nothing()),
		"no economy":   data(head(1, 1), []byte{9}),
		"Epoch 0":      data(head(0, 1), nothing()),
		"State 0":      data(head(1, 0), nothing()),
		"State 4":      data(head(1, 4), nothing()),
		"a Span":       data(zone.Head{ID: 1, Epoch: 1, State: 1, Span: api.Span{From: "b", To: "b"}}, nothing()),
		"empty, but 1": nil,
	} {
		d := fresh(t)
		l, _ := ledger.Open(d, "z1")
		l.Write(1, b)
		want(t, name, errOf(zone.Open(d, 1)), api.ErrForm)
	}
	d = fresh(t)
	l, _ := ledger.Open(d, "z1")
	l.Append(bytesOf(mint(1, "a", 1)))
	want(t, "entries without an image", errOf(zone.Open(d, 1)), api.ErrNone)
	d = fresh(t)
	l, _ = ledger.Open(d, "z1")
	l.Write(3, data(head(1, 1), nothing()))
	l.Append([]byte("none"))
	want(t, "an entry that is no request", errOf(zone.Open(d, 1)), api.ErrForm)
	d = fresh(t)
	d.Append("z1-img", []byte("none"))
	want(t, "no ledger", errOf(zone.Open(d, 1)), api.ErrForm)
	d = fresh(t)
	made(t, d, api.Serving)
	d.Append("z1-log", []byte("torn"))
	d.Fuse(0)
	want(t, "an error of the disk", errOf(zone.Open(d, 1)), api.ErrDead)
}

func TestOpenAppliesTheEntries(t *testing.T) {
	d := fresh(t)
	z := made(t, d, api.Serving)
	does(t, z, mint(1, "a", 5), mint(2, "b", 6))
	d.Crash(0)
	z = open(t, d)
	if z.Last() != 2 || !bytes.Equal(z.Image(), image(mint(1, "a", 5), mint(2, "b", 6))) {
		t.Error(state(z))
	}
	if r, err := z.Do(mint(2, "b", 6)); err != api.OK || r != (api.Reply{}) || z.Last() != 2 {
		t.Error("what is known is said", r, err)
	}
}

// P15.2
func TestDo(t *testing.T) {
	d := fresh(t)
	z, _ := zone.Make(d, zone.Head{ID: 1, Span: api.Span{From: "b", To: "d"}, Epoch: 1, State: api.Serving}, 5, nothing())
	for _, key := range []string{"a", "d", "\xff"} {
		if r, err := z.Do(mint(1, key, 5)); r != (api.Reply{}) || err != api.ErrRange {
			t.Error(key, r, err)
		}
	}
	if r, err := z.Do(api.Op{}); r != (api.Reply{Err: api.ErrArg}) || err != api.OK {
		t.Error("what may not be", r, err)
	}
	if r, err := z.Do(mint(1, "", 5)); r != (api.Reply{Err: api.ErrArg}) || err != api.OK {
		t.Error("what may not be", r, err)
	}
	d.Fuse(2)
	does(t, z, mint(1, "b", 5))
	want(t, "Append and Sync", d.Append("q"), api.ErrDead)
	for _, c := range []struct {
		o    api.Op
		want api.Reply
	}{{mint(1, "b", 5), api.Reply{}}, {mint(1, "c", 9), api.Reply{}}} {
		if r, err := z.Do(c.o); r != c.want || err != api.OK {
			t.Error("what is known, on a dead disk", r, err)
		}
	}
	d.Fuse(-1)
	if r, err := z.Do(api.Op{Kind: api.OpLook, Client: 1, Seq: 2, At: api.Place{Key: "b", Who: "x"}}); r != (api.Reply{Has: api.Items{5}}) || err != api.OK {
		t.Error(r, err)
	}
	if p, err := z.Entry(6); err != api.OK || !bytes.Equal(p, bytesOf(mint(1, "b", 5))) || z.Last() != 7 {
		t.Errorf("% x, %v", p, err)
	}
	if r, err := z.Do(mint(1, "b", 5)); r != (api.Reply{Err: api.ErrOld}) || err != api.OK || z.Last() != 7 {
		t.Error(r, err)
	}
}

func TestOnlyAServingOneDoes(t *testing.T) {
	for _, s := range []int{api.Frozen, api.Coming} {
		z := made(t, fresh(t), s)
		for _, o := range []api.Op{mint(1, "a", 5), {}} {
			if r, err := z.Do(o); r != (api.Reply{}) || err != api.ErrFrozen {
				t.Error(s, r, err)
			}
		}
	}
}

func TestDoWritesAnew(t *testing.T) {
	d := fresh(t)
	z := made(t, d, api.Serving)
	var all []api.Op
	for i := range api.MaxLog - 1 {
		all = append(all, mint(i+1, "a", 5))
	}
	does(t, z, all...)
	if p, err := z.Entry(1); err != api.OK || !bytes.Equal(p, bytesOf(all[0])) {
		t.Error("not yet:", err)
	}
	d.Fuse(6)
	does(t, z, mint(api.MaxLog, "a", 5))
	want(t, "Append, Sync, and an image", d.Append("q"), api.ErrDead)
	d.Crash(0)
	for i := range api.MaxLog + 2 {
		if _, err := z.Entry(i); err != api.ErrNone {
			t.Error(i, err)
		}
	}
	if !slices.Equal(d.List(), []string{"z1-img"}) || z.Last() != api.MaxLog || state(open(t, d)) != state(z) {
		t.Error(d.List(), z.Last())
	}
	does(t, z, mint(100, "a", 5))
	if _, err := z.Entry(api.MaxLog + 1); err != api.OK {
		t.Error(err)
	}
}

func TestTheDiskErrs(t *testing.T) {
	other := zone.Head{ID: 1, Epoch: 2, State: api.Serving}
	for name, f := range map[string]func(z *zone.Zone) api.Errno{
		"Do":   func(z *zone.Zone) api.Errno { r, err := z.Do(mint(99, "a", 1)); return orReply(r, err) },
		"Set":  func(z *zone.Zone) api.Errno { return z.Set(other) },
		"Join": func(z *zone.Zone) api.Errno { return z.Join(other, image(mint(9, "q", 1))) },
		"Drop": func(z *zone.Zone) api.Errno { return z.Drop() },
	} {
		d := fresh(t)
		z := made(t, d, api.Serving)
		does(t, z, mint(1, "a", 1))
		d.Fuse(0)
		want(t, name, f(z), api.ErrDead)
		d.Fuse(-1)
		isDead(t, name, z)
		if l := z.Events(); len(l) != 1 {
			t.Error(name, "also a dead one tells", l)
		}
	}
	d := fresh(t)
	z := made(t, d, api.Coming)
	d.Fuse(1)
	want(t, "Ship", z.Ship(1, bytesOf(mint(1, "a", 1))), api.ErrDead)
	d.Fuse(-1)
	isDead(t, "Ship", z)
	z, _ = zone.Make(fresh(t), head(1, api.Serving), top, nothing())
	if r, err := z.Do(mint(1, "a", 1)); r != (api.Reply{}) || err != api.ErrLong {
		t.Error(r, err)
	}
	isDead(t, "no number is left", z)
}

func orReply(r api.Reply, err api.Errno) api.Errno {
	if r != (api.Reply{}) {
		return -1
	}
	return err
}

func isDead(t *testing.T, what string, z *zone.Zone) {
	t.Helper()
	for _, o := range []api.Op{mint(1, "a", 1), mint(99, "a", 1), {}} {
		if r, err := z.Do(o); r != (api.Reply{}) || err != api.ErrDead {
			t.Error(what, "Do of a dead one", r, err)
		}
	}
	want(t, what+": Set", z.Set(zone.Head{}), api.ErrDead)
	want(t, what+": the same Set", z.Set(z.Head()), api.ErrDead)
	want(t, what+": Ship", z.Ship(0, nil), api.ErrDead)
	want(t, what+": Join", z.Join(zone.Head{}, nil), api.ErrDead)
	want(t, what+": Drop", z.Drop(), api.ErrDead)
}

// P15.3
func TestEvents(t *testing.T) {
	d := fresh(t)
	z := made(t, d, api.Serving)
	if len(z.Events()) != 0 {
		t.Error("nothing was done")
	}
	does(t, z, mint(1, "a", 5))
	z.Do(mint(1, "a", 5))
	z.Do(api.Op{})
	z.Do(api.Op{Kind: api.OpSend, Client: 1, Seq: 2, At: api.Place{Key: "a", Who: "x"}, To: api.Place{Key: "b", Who: "x"}, Item: 1, Count: 1})
	l := z.Events()
	if len(l) != 2 || l[0] != (zone.Event{Zone: 1, Index: 1, Op: mint(1, "a", 5)}) || l[1].Index != 2 || l[1].Op.Kind != api.OpSend {
		t.Error(l)
	}
	if len(z.Events()) != 0 {
		t.Error("told twice")
	}
	for i := range 14 {
		does(t, z, mint(10+i, "b", 1))
	}
	if l := z.Events(); len(l) != 14 || l[13].Index != 16 {
		t.Error("also what was written anew", l)
	}
	does(t, z, mint(40, "b", 1), mint(41, "b", 2))
	d.Crash(0)
	z = open(t, d)
	if l := z.Events(); !slices.Equal(l, []zone.Event{{Zone: 1, Index: 17, Op: mint(40, "b", 1)}, {Zone: 1, Index: 18, Op: mint(41, "b", 2)}}) {
		t.Error("Open adds those of the ledger", l)
	}
	z.Set(head(1, api.Frozen))
	if len(z.Events()) != 0 || len(open(t, d).Events()) != 0 {
		t.Error("Set does nothing of that kind")
	}
}

func TestEventsWhenTheWriteErrs(t *testing.T) {
	for fuse := range 7 {
		d := fresh(t)
		z := made(t, d, api.Serving)
		for i := range 15 {
			does(t, z, mint(i+1, "a", 1))
		}
		z.Events()
		d.Fuse(fuse)
		r, err := z.Do(mint(16, "a", 1))
		l := z.Events()
		switch {
		case fuse == 6:
			want(t, "all is done", err, api.OK)
		default:
			want(t, "an error", orReply(r, err), api.ErrDead)
		}
		if done := fuse >= 2; done != (len(l) == 1) {
			t.Error(fuse, l)
		}
	}
}

func TestAComingOneTellsNothing(t *testing.T) {
	d := fresh(t)
	z := made(t, d, api.Coming)
	want(t, "Ship", z.Ship(1, bytesOf(mint(1, "a", 1))), api.OK)
	if len(open(t, d).Events()) != 0 {
		t.Error("Open of one that is Coming")
	}
}

// P15.4
func TestSetErrs(t *testing.T) {
	d := fresh(t)
	z, _ := zone.Make(d, head(5, api.Serving), 0, nothing())
	does(t, z, mint(1, "a", 1))
	was := state(z)
	for name, h := range wrong() {
		want(t, name, z.Set(h), api.ErrArg)
		want(t, name, z.Join(h, nil), api.ErrArg)
	}
	h := head(9, api.Serving)
	h.ID = 2
	want(t, "another ID", z.Set(h), api.ErrArg)
	want(t, "another ID", z.Join(h, nil), api.ErrArg)
	h.Epoch = 1
	want(t, "another ID, and below", z.Set(h), api.ErrArg)
	want(t, "a lesser Epoch", z.Set(head(4, api.Serving)), api.ErrStale)
	want(t, "a lesser Epoch", z.Join(head(4, api.Serving), nil), api.ErrStale)
	want(t, "no economy", z.Join(head(5, api.Serving), []byte("none")), api.ErrForm)
	want(t, "both have a key", z.Join(head(6, api.Serving), image(mint(1, "a", 1))), api.ErrHas)
	if state(z) != was || state(open(t, d)) != was {
		t.Error("something changed:", state(z))
	}
	d.Fuse(0)
	want(t, "the same head", z.Set(head(5, api.Serving)), api.OK)
	d.Fuse(-1)
	does(t, z, mint(2, "a", 1))
}

func TestSet(t *testing.T) {
	d := fresh(t)
	z := made(t, d, api.Serving)
	does(t, z, mint(1, "a", 1), mint(2, "b", 2), mint(3, "c", 3))
	does(t, z, api.Op{Kind: api.OpSend, Client: 2, Seq: 1, At: api.Place{Key: "a", Who: "x"}, To: api.Place{Key: "q", Who: "x"}, Count: 1})
	does(t, z, api.Op{Kind: api.OpSend, Client: 2, Seq: 2, At: api.Place{Key: "b", Who: "x"}, To: api.Place{Key: "q", Who: "x"}, Count: 1})
	want(t, "Frozen", z.Set(head(1, api.Frozen)), api.OK)
	if _, err := z.Entry(5); err != api.ErrNone || z.Last() != 5 {
		t.Error("written anew", err, z.Last())
	}
	h := zone.Head{ID: 1, Span: api.Span{From: "b"}, Epoch: 3, State: api.Serving}
	want(t, "another Span", z.Set(h), api.OK)
	for _, z := range []*zone.Zone{z, open(t, d)} {
		if z.Head() != h || z.Last() != 5 || !slices.Equal(z.Econ().Keys(), []string{"b", "c"}) {
			t.Error(z.Head(), z.Econ().Keys())
		}
		if l := z.Econ().Transits(); len(l) != 1 || l[0].At.Key != "b" {
			t.Error(l)
		}
		if r, known := z.Econ().Peek(mint(3, "c", 3)); !known || r != (api.Reply{}) {
			t.Error("sessions stay", r)
		}
	}
	if _, err := z.Do(mint(9, "a", 1)); err != api.ErrRange {
		t.Error(err)
	}
	does(t, z, mint(9, "b", 1))
}

func TestShip(t *testing.T) {
	d := fresh(t)
	z, _ := zone.Make(d, zone.Head{ID: 1, Span: api.Span{From: "b"}, Epoch: 1, State: api.Coming}, 5, nothing())
	p := bytesOf(mint(1, "b", 1))
	for _, i := range []int{5, 7, 0, -1, math.MinInt, math.MaxInt} {
		want(t, "a number", z.Ship(i, []byte("none")), api.ErrStale)
	}
	want(t, "no request", z.Ship(6, []byte("none")), api.ErrForm)
	want(t, "nothing", z.Ship(6, nil), api.ErrForm)
	want(t, "not In Span", z.Ship(6, bytesOf(mint(1, "a", 1))), api.ErrForm)
	d.Fuse(2)
	want(t, "Ship", z.Ship(6, p), api.OK)
	want(t, "Append and Sync", d.Append("q"), api.ErrDead)
	d.Fuse(-1)
	want(t, "twice", z.Ship(6, p), api.ErrStale)
	if e, err := z.Entry(6); err != api.OK || !bytes.Equal(e, p) || z.Last() != 6 || !bytes.Equal(z.Image(), image(mint(1, "b", 1))) {
		t.Error(err, state(z))
	}
	for i := range 15 {
		want(t, "Ship", z.Ship(7+i, bytesOf(mint(2+i, "b", 1))), api.OK)
	}
	if _, err := z.Entry(21); err != api.ErrNone || z.Last() != 21 || state(open(t, d)) != state(z) {
		t.Error("written anew, as in Do", err, z.Last())
	}
	want(t, "Serving", z.Set(zone.Head{ID: 1, Span: api.Span{From: "b"}, Epoch: 1, State: api.Serving}), api.OK)
	want(t, "not Coming", z.Ship(22, p), api.ErrFrozen)
	want(t, "not Coming, another number", z.Ship(1, nil), api.ErrFrozen)
}

func TestReading(t *testing.T) {
	z := made(t, fresh(t), api.Serving)
	does(t, z, mint(1, "a", 1), mint(2, "b", 2))
	for _, i := range []int{0, 3, -1, math.MinInt, math.MaxInt} {
		if p, err := z.Entry(i); len(p) != 0 || err != api.ErrNone {
			t.Error(i, p, err)
		}
	}
	if z.Econ().At(api.Place{Key: "b", Who: "x"}) != (api.Items{2}) || !bytes.Equal(z.Image(), image(mint(1, "a", 1), mint(2, "b", 2))) {
		t.Error("Econ")
	}
}

// P15.5
func TestCut(t *testing.T) {
	z := made(t, fresh(t), api.Serving)
	does(t, z, mint(1, "a", 1), mint(2, "b", 2), mint(3, "c", 3))
	was := state(z)
	e := econ.New()
	for _, o := range []api.Op{mint(1, "a", 1), mint(2, "b", 2), mint(3, "c", 3)} {
		e.Apply(o)
	}
	s := api.Span{From: "b", To: "c"}
	if b := z.Cut(s); !bytes.Equal(b, e.Cut(s).Encode()) || state(z) != was {
		t.Error("the zone itself stays", state(z))
	}
}

func TestJoin(t *testing.T) {
	d := fresh(t)
	z, _ := zone.Make(d, zone.Head{ID: 1, Span: api.Span{To: "c"}, Epoch: 2, State: api.Serving}, 0, nothing())
	does(t, z, mint(1, "a", 1))
	h := head(7, api.Serving)
	want(t, "Join", z.Join(h, image(mint(5, "c", 9))), api.OK)
	for _, z := range []*zone.Zone{z, open(t, d)} {
		if z.Head() != h || z.Last() != 1 || !slices.Equal(z.Econ().Keys(), []string{"a", "c"}) || z.Econ().At(api.Place{Key: "c", Who: "x"}) != (api.Items{9}) {
			t.Error(z.Head(), z.Econ().Keys())
		}
	}
	if _, err := z.Entry(1); err != api.ErrNone {
		t.Error("written anew", err)
	}
	does(t, z, mint(6, "q", 1))
}

func TestDrop(t *testing.T) {
	for state, steps := range map[int]int{api.Serving: 4, api.Frozen: 1, api.Coming: 1} {
		d := fresh(t)
		z := made(t, d, state)
		d.Fuse(steps)
		want(t, "Drop", z.Drop(), api.OK)
		want(t, "that many things", d.Append("q"), api.ErrDead)
		d.Fuse(-1)
		if len(d.List()) != 0 {
			t.Error(d.List())
		}
		isDead(t, "Drop", z)
		want(t, "Open", errOf(zone.Open(d, 1)), api.ErrNone)
	}
	for fuse := range 8 {
		d := fresh(t)
		z := made(t, d, api.Serving)
		does(t, z, mint(1, "a", 1))
		d.Fuse(fuse)
		err := z.Drop()
		d.Crash(0)
		back, err2 := zone.Open(d, 1)
		switch {
		case err == api.OK:
			want(t, "it is gone", err2, api.ErrNone)
		case fuse < 3:
			if err2 != api.OK || back.Head().State != api.Serving {
				t.Error(fuse, err2, back.Head())
			}
		default:
			if err2 != api.OK || back.Head().State != api.Frozen || !bytes.Equal(back.Image(), image(mint(1, "a", 1))) {
				t.Error(fuse, err2, back.Head())
			}
		}
	}
}

// P15.6
func TestBehindAnyCrash(t *testing.T) {
	var steps []func(z *zone.Zone) api.Errno
	do := func(o api.Op) {
		steps = append(steps, func(z *zone.Zone) api.Errno { _, err := z.Do(o); return err })
	}
	set := func(h zone.Head) { steps = append(steps, func(z *zone.Zone) api.Errno { return z.Set(h) }) }
	for i := range 20 {
		do(mint(i+1, string(rune('a'+i%4)), 3))
	}
	set(head(1, api.Frozen))
	set(zone.Head{ID: 1, Epoch: 2, State: api.Serving, Span: api.Span{To: "c"}})
	do(mint(30, "a", 1))
	steps = append(steps, func(z *zone.Zone) api.Errno { return z.Join(head(4, api.Serving), image(mint(31, "q", 8))) })
	do(mint(32, "q", 1))
	set(head(5, api.Coming))
	steps = append(steps, func(z *zone.Zone) api.Errno { return z.Ship(z.Last()+1, bytesOf(mint(33, "x", 8))) })
	set(head(5, api.Serving))

	z := made(t, fresh(t), api.Serving)
	states := []string{state(z)}
	for _, f := range steps {
		want(t, "a step", f(z), api.OK)
		states = append(states, state(z))
	}
	for fuse := range 85 {
		for draw := range 25 {
			d := fresh(t)
			z := made(t, d, api.Serving)
			d.Fuse(fuse)
			done := 0
			for done < len(steps) && steps[done](z) == api.OK {
				done++
			}
			may := states[done:min(done+2, len(states))]
			d.Crash(draw * 7)
			d.Fuse(draw % 4)
			if z, err := zone.Open(d, 1); err == api.OK && !slices.Contains(may, state(z)) {
				t.Fatalf("fuse %d, draw %d: %s is none of\n%s", fuse, draw, state(z), strings.Join(may, "\n"))
			}
			d.Crash(draw)
			if s := state(open(t, d)); !slices.Contains(may, s) {
				t.Fatalf("fuse %d, draw %d: %s is none of\n%s", fuse, draw, s, strings.Join(may, "\n"))
			}
		}
	}
}

func TestNewMemory(t *testing.T) {
	d := fresh(t)
	img := image(mint(1, "a", 1))
	z, _ := zone.Make(d, head(1, api.Coming), 1, img)
	p := bytesOf(mint(2, "a", 1))
	z.Ship(2, p)
	was := state(z)
	clear(img)
	clear(p)
	clear(z.Image())
	clear(z.Cut(api.Span{}))
	e, _ := z.Entry(2)
	clear(e)
	if state(z) != was || state(open(t, d)) != was {
		t.Error("memory is shared")
	}
	other := image(mint(5, "q", 1))
	z.Join(head(2, api.Serving), other)
	was = state(z)
	clear(other)
	if state(z) != was {
		t.Error("memory is shared by Join")
	}
	does(t, z, mint(7, "a", 1))
	l := z.Events()
	kept := l[0]
	does(t, z, mint(8, "a", 1))
	if l[0] != kept {
		t.Error("an answer changed")
	}
}

func TestNilZone(t *testing.T) {
	var z *zone.Zone
	if r, err := z.Do(mint(1, "a", 1)); r != (api.Reply{}) || err != api.ErrArg {
		t.Error(r, err)
	}
	want(t, "Set", z.Set(head(1, 1)), api.ErrArg)
	want(t, "Ship", z.Ship(1, nil), api.ErrArg)
	want(t, "Join", z.Join(head(1, 1), nothing()), api.ErrArg)
	want(t, "Drop", z.Drop(), api.ErrArg)
	if p, err := z.Entry(1); len(p) != 0 || err != api.ErrNone {
		t.Error(p, err)
	}
	if z.Head() != (zone.Head{}) || z.Last() != 0 || len(z.Events()) != 0 || len(z.Image()) != 0 || z.Econ() != nil || len(z.Cut(api.Span{})) != 0 {
		t.Error("a nil Zone has something")
	}
}
