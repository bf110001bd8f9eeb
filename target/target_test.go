package target_test

import (
	"bytes"
	"math/rand"
	"reflect"
	"slices"
	"testing"

	"satrapy/api"
	"satrapy/disk"
	"satrapy/econ"
	"satrapy/op"
	"satrapy/source"
	"satrapy/target"
	"satrapy/wire"
	"satrapy/zone"
)

var span = api.Span{From: "a", To: "q"}

func fresh(t *testing.T) *disk.Disk {
	t.Helper()
	d, err := disk.New(1 << 20)
	if err != api.OK {
		t.Fatal(err)
	}
	return d
}

func mint(seq int) api.Op {
	return api.Op{Kind: api.OpMint, Client: 2, Seq: seq, At: api.Place{Key: "c", Who: "x"}, Count: seq}
}

func head(epoch, state int) zone.Head {
	return zone.Head{ID: 3, Span: span, Epoch: epoch, State: state}
}

// image is an economy of more than two pieces.
func image() []byte {
	e := econ.New()
	for i := range 120 {
		e.Apply(api.Op{Kind: api.OpMint, Client: 1, Seq: i + 1, At: api.Place{Key: "b", Who: string(rune('a'+i%26)) + string(rune('a'+i/26)) + "whoever"}, Count: i + 1})
	}
	return e.Encode()
}

// copies is a Copy of an image from an offset on.
func copies(epoch, index int, image []byte, offset int) wire.Word {
	end := min(len(image), offset+api.Chunk)
	return wire.Word{Kind: wire.Copy, Zone: 3, Epoch: epoch, Index: index, Size: len(image), Offset: offset, Span: span, Data: image[offset:end]}
}

func ships(epoch, index, seq int) wire.Word {
	b, _ := op.Encode(mint(seq))
	return wire.Word{Kind: wire.Ship, Zone: 3, Epoch: epoch, Index: index, Data: b}
}

func copied(epoch, index, offset int) wire.Word {
	return wire.Word{Kind: wire.Copied, Zone: 3, Epoch: epoch, Index: index, Offset: offset}
}

func shipped(epoch, index int) wire.Word {
	return wire.Word{Kind: wire.Shipped, Zone: 3, Epoch: epoch, Index: index}
}

// hears lets a target hear a word that is to be answered so: the zone that is there then.
func hears(t *testing.T, what string, x *target.Target, w wire.Word, z *zone.Zone, want wire.Word) *zone.Zone {
	t.Helper()
	got, back, ok, err := x.Hear(w, z)
	if err != api.OK || ok != (want.Kind != 0) || !reflect.DeepEqual(back, want) || ok && !wire.May(back) {
		t.Errorf("%s: %v, %v, %v, not %v", what, back, ok, err, want)
	}
	return got
}

// P23.1
func TestHearNothing(t *testing.T) {
	d := fresh(t)
	z, _ := zone.Make(d, head(2, api.Coming), 5, econ.New().Encode())
	bad := copies(2, 9, image(), 0)
	bad.Size = 0
	for name, w := range map[string]wire.Word{
		"a word that may not be": bad,
		"nothing":                {},
		"a Copied":               copied(2, 9, 1),
		"a Shipped":              shipped(2, 9),
		"a Pull":                 {Kind: wire.Pull},
		"a Ship without data":    {Kind: wire.Ship, Zone: 3, Epoch: 2, Index: 6},
	} {
		x := target.New(d)
		if got := hears(t, name, x, w, z, wire.Word{}); got != z {
			t.Error(name, "another zone")
		}
		if got := hears(t, name, x, w, nil, wire.Word{}); got != nil {
			t.Error(name, "a zone")
		}
	}
}

func TestAWholeCopy(t *testing.T) {
	d := fresh(t)
	img := econ.New().Encode()
	x := target.New(d)
	z := hears(t, "all at once", x, copies(2, 5, img, 0), nil, copied(2, 5, len(img)))
	if z.Head() != head(2, api.Coming) || z.Last() != 5 || !bytes.Equal(z.Image(), img) {
		t.Error(z.Head(), z.Last())
	}
	d.Crash(0)
	if back, err := zone.Open(d, 3); err != api.OK || back.Head() != z.Head() || back.Last() != 5 {
		t.Error("it lasts", err)
	}
}

func TestPieces(t *testing.T) {
	d := fresh(t)
	img := image()
	x := target.New(d)
	hears(t, "nothing comes", x, copies(2, 5, img, 700), nil, copied(2, 5, 0))
	hears(t, "the first", x, copies(2, 5, img, 0), nil, copied(2, 5, 512))
	hears(t, "the first, again", x, copies(2, 5, img, 0), nil, copied(2, 5, 512))
	hears(t, "a hole", x, copies(2, 5, img, 1024), nil, copied(2, 5, 512))
	hears(t, "the second", x, copies(2, 5, img, 512), nil, copied(2, 5, 1024))
	hears(t, "late", x, copies(2, 5, img, 512), nil, copied(2, 5, 1024))
	other := copies(2, 5, img, 1024)
	other.Size++
	hears(t, "another size", x, other, nil, copied(2, 5, 0))
	other = copies(2, 5, img, 1024)
	other.Span.To = "r"
	hears(t, "another span", x, other, nil, copied(2, 5, 0))
	hears(t, "another number", x, copies(2, 6, img, 1024), nil, copied(2, 6, 0))
	hears(t, "another epoch", x, copies(3, 5, img, 1024), nil, copied(3, 5, 0))
	other = copies(2, 5, img, 1024)
	other.Zone = 4
	if _, w, _, _ := x.Hear(other, nil); w.Offset != 0 || w.Zone != 4 {
		t.Error("another zone", w)
	}
	hears(t, "what comes is still the same", x, copies(2, 5, img, 1024), nil, copied(2, 5, 1536))
	for at := 1536; ; at += 512 {
		if at+512 < len(img) {
			hears(t, "the next", x, copies(2, 5, img, at), nil, copied(2, 5, at+512))
			continue
		}
		if len(d.List()) != 0 {
			t.Error(d.List())
		}
		z := hears(t, "the last", x, copies(2, 5, img, at), nil, copied(2, 5, len(img)))
		if z.Head() != head(2, api.Coming) || z.Last() != 5 || !bytes.Equal(z.Image(), img) {
			t.Error(z.Head(), z.Last())
		}
		hears(t, "once more", x, copies(2, 5, img, at), z, shipped(2, 5))
		hears(t, "nothing comes any more", x, copies(2, 5, img, at), nil, copied(2, 5, 0))
		break
	}
}

func TestAnotherImageBegins(t *testing.T) {
	img := image()
	for name, w := range map[string]wire.Word{"another number": copies(2, 6, img, 0), "another epoch": copies(3, 5, img, 0), "another image": copies(2, 5, img[:600], 0)} {
		x := target.New(fresh(t))
		hears(t, "the first", x, copies(2, 5, img, 0), nil, copied(2, 5, 512))
		hears(t, name, x, w, nil, copied(w.Epoch, w.Index, 512))
		hears(t, "the elder one", x, copies(2, 5, img, 512), nil, copied(2, 5, 0))
	}
}

func TestMakeErrs(t *testing.T) {
	d := fresh(t)
	x := target.New(d)
	w := copies(2, 5, []byte("no economy"), 0)
	old, _ := zone.Make(d, head(1, api.Coming), 1, econ.New().Encode())
	if z, back, ok, err := x.Hear(w, old); z != nil || ok || err != api.ErrForm || !reflect.DeepEqual(back, wire.Word{}) {
		t.Error(z, back, ok, err)
	}
	if _, back, _, _ := x.Hear(copies(2, 5, image(), 512), nil); back.Offset != 0 {
		t.Error("it comes no more", back)
	}
	d.Fuse(1)
	if z, back, ok, err := x.Hear(copies(2, 5, econ.New().Encode(), 0), nil); z != nil || ok || err != api.ErrDead || !reflect.DeepEqual(back, wire.Word{}) {
		t.Error(z, back, ok, err)
	}
}

func TestAZoneThatIsThere(t *testing.T) {
	img := econ.New().Encode()
	d := fresh(t)
	z, _ := zone.Make(d, head(2, api.Coming), 5, img)
	x := target.New(d)
	for _, index := range []int{5, 4, 0} {
		if got := hears(t, "it has all of that", x, copies(2, index, img, 0), z, shipped(2, 5)); got != z {
			t.Error("another zone")
		}
	}
	newer := hears(t, "a newer image", x, copies(2, 6, img, 0), z, copied(2, 6, len(img)))
	if newer == z || newer.Last() != 6 {
		t.Error(newer.Last())
	}
	next := hears(t, "another epoch", x, copies(3, 6, img, 0), newer, copied(3, 6, len(img)))
	if next.Head() != head(3, api.Coming) {
		t.Error(next.Head())
	}
	for _, state := range []int{api.Serving, api.Frozen} {
		d := fresh(t)
		z, _ := zone.Make(d, head(2, state), 5, img)
		got := hears(t, "not theirs", target.New(d), copies(2, 5, img, 0), z, copied(2, 5, len(img)))
		if got == z || got.Head() != head(2, api.Coming) {
			t.Error(got.Head())
		}
	}
}

func TestShip(t *testing.T) {
	d := fresh(t)
	z, _ := zone.Make(d, head(2, api.Coming), 5, econ.New().Encode())
	x := target.New(d)
	hears(t, "the next one", x, ships(2, 6, 1), z, shipped(2, 6))
	hears(t, "once more", x, ships(2, 6, 1), z, shipped(2, 6))
	hears(t, "one is left out", x, ships(2, 8, 3), z, shipped(2, 6))
	hears(t, "late", x, ships(2, 1, 3), z, shipped(2, 6))
	hears(t, "the next one", x, ships(2, 7, 2), z, shipped(2, 7))
	hears(t, "another epoch", x, ships(3, 8, 3), z, wire.Word{})
	if got := hears(t, "no zone", x, ships(2, 8, 3), nil, wire.Word{}); got != nil {
		t.Error("a zone")
	}
	bad := ships(2, 8, 3)
	bad.Data = []byte("none")
	if got := hears(t, "no request", x, bad, z, wire.Word{}); got != z || z.Last() != 7 {
		t.Error(z.Last())
	}
	d.Crash(0)
	if back, err := zone.Open(d, 3); err != api.OK || back.Last() != 7 || back.Econ().At(api.Place{Key: "c", Who: "x"}) != (api.Items{3}) {
		t.Error("what is told to have come lasts", err)
	}
	for _, state := range []int{api.Serving, api.Frozen} {
		z, _ := zone.Make(fresh(t), head(2, state), 5, econ.New().Encode())
		if got := hears(t, "not Coming", x, ships(2, 6, 1), z, wire.Word{}); got != z || z.Last() != 5 {
			t.Error(z.Last())
		}
	}
	z, _ = zone.Open(d, 3)
	d.Fuse(1)
	if got, back, ok, err := x.Hear(ships(2, 8, 3), z); got != nil || ok || err != api.ErrDead || !reflect.DeepEqual(back, wire.Word{}) {
		t.Error(got, back, ok, err)
	}
}

// P23.2
func TestStop(t *testing.T) {
	x := target.New(fresh(t))
	img := image()
	hears(t, "the first", x, copies(2, 5, img, 0), nil, copied(2, 5, 512))
	x.Stop()
	hears(t, "nothing comes", x, copies(2, 5, img, 512), nil, copied(2, 5, 0))
	hears(t, "from the beginning", x, copies(2, 5, img, 0), nil, copied(2, 5, 512))
	x.Stop()
	x.Stop()
}

// P23.3
func TestAZoneGoes(t *testing.T) {
	for seed := range 40 {
		draw := rand.New(rand.NewSource(int64(seed)))
		a, b := fresh(t), fresh(t)
		z, _ := zone.Make(a, head(1, api.Serving), 5, image())
		s, x := source.New(z, 2), target.New(b)
		var came *zone.Zone
		var flight []wire.Word
		seq, told := 0, 0
		for n := 0; seq < 60 || s.Lag() != 0; n++ {
			if n > 200000 {
				t.Fatal("it does not end", s.Lag())
			}
			switch k := draw.Intn(20); {
			case k < 4:
				if w, ok := s.Next(); ok {
					flight = append(flight, w)
				}
			case k < 5 && seq < 60:
				seq++
				z.Do(mint(seq))
			case k < 6 && n%9 == 0 && seq < 60:
				b.Crash(draw.Intn(99))
				x = target.New(b)
				came, _ = zone.Open(b, 3)
				if came.Last() < told {
					t.Fatal("what was told to have come is gone:", came.Last(), told)
				}
			case len(flight) > 0:
				at := draw.Intn(len(flight))
				w := flight[at]
				if draw.Intn(5) > 0 {
					flight = slices.Delete(flight, at, at+1)
				}
				if w.Kind == wire.Copied || w.Kind == wire.Shipped {
					s.Hear(w)
					continue
				}
				got, back, ok, err := x.Hear(w, came)
				if err != api.OK {
					t.Fatal(err)
				}
				came = got
				if ok {
					flight = append(flight, back)
					if back.Kind == wire.Shipped {
						told = max(told, back.Index)
					}
				}
			}
			if len(flight) > 30 {
				flight = flight[20:]
			}
		}
		if came.Last() != z.Last() || !bytes.Equal(came.Image(), z.Image()) {
			t.Fatal("another economy has come")
		}
	}
}

func TestNewMemory(t *testing.T) {
	x := target.New(fresh(t))
	img := image()
	first := copies(2, 5, bytes.Clone(img), 0)
	x.Hear(first, nil)
	clear(first.Data)
	var z *zone.Zone
	for at := 512; at < len(img); at += 512 {
		z, _, _, _ = x.Hear(copies(2, 5, img, at), nil)
	}
	if !bytes.Equal(z.Image(), img) {
		t.Error("what was handed in was kept")
	}
	w := ships(2, 6, 1)
	was := bytes.Clone(w.Data)
	x.Hear(w, z)
	clear(w.Data)
	if p, _ := z.Entry(6); !bytes.Equal(p, was) {
		t.Error("what was handed in was kept")
	}
}

func TestNilTarget(t *testing.T) {
	var x *target.Target
	x.Stop()
	z, _ := zone.Make(fresh(t), head(2, api.Coming), 5, econ.New().Encode())
	for _, z := range []*zone.Zone{nil, z} {
		if got, w, ok, err := x.Hear(ships(2, 6, 1), z); got != z || ok || err != api.ErrArg || !reflect.DeepEqual(w, wire.Word{}) {
			t.Error(got, w, ok, err)
		}
	}
}
