package source_test

import (
	"bytes"
	"math"
	"reflect"
	"strings"
	"testing"

	"satrapy/api"
	"satrapy/disk"
	"satrapy/econ"
	"satrapy/op"
	"satrapy/source"
	"satrapy/wire"
	"satrapy/zone"
)

var span = api.Span{From: "a", To: "q"}

// made is zone 3 of Epoch 1, Serving, at number 5, of about so many bytes.
func made(t *testing.T, keys int) *zone.Zone {
	t.Helper()
	d, _ := disk.New(1 << 20)
	e := econ.New()
	for i := range keys {
		e.Apply(api.Op{Kind: api.OpMint, Client: 1, Seq: i + 1, At: api.Place{Key: "b", Who: "w" + strings.Repeat("x", i%10) + string(rune('a'+i%26))}, Count: i + 1})
	}
	z, err := zone.Make(d, zone.Head{ID: 3, Span: span, Epoch: 1, State: api.Serving}, 5, e.Encode())
	if err != api.OK {
		t.Fatal(err)
	}
	return z
}

func mint(seq int) api.Op {
	return api.Op{Kind: api.OpMint, Client: 2, Seq: seq, At: api.Place{Key: "c", Who: "x"}, Count: seq}
}

func does(t *testing.T, z *zone.Zone, from, to int) {
	t.Helper()
	for i := from; i <= to; i++ {
		if _, err := z.Do(mint(i)); err != api.OK {
			t.Fatal(err)
		}
	}
}

func copied(index, offset int) wire.Word {
	return wire.Word{Kind: wire.Copied, Zone: 3, Epoch: 2, Index: index, Offset: offset}
}

func shipped(index int) wire.Word {
	return wire.Word{Kind: wire.Shipped, Zone: 3, Epoch: 2, Index: index}
}

// copies is a Copy of an image from an offset on.
func copies(index int, image []byte, offset int) wire.Word {
	end := min(len(image), offset+api.Chunk)
	return wire.Word{Kind: wire.Copy, Zone: 3, Epoch: 2, Index: index, Size: len(image), Offset: offset, Span: span, Data: image[offset:end]}
}

func ships(index, seq int) wire.Word {
	b, _ := op.Encode(mint(seq))
	return wire.Word{Kind: wire.Ship, Zone: 3, Epoch: 2, Index: index, Data: b}
}

func next(t *testing.T, what string, s *source.Source, want wire.Word) {
	t.Helper()
	for range 2 {
		if w, ok := s.Next(); !ok || !reflect.DeepEqual(w, want) || !wire.May(w) {
			t.Errorf("%s: Next is %v, not %v", what, w, want)
		}
	}
}

func lags(t *testing.T, what string, s *source.Source, want int) {
	t.Helper()
	if got := s.Lag(); got != want {
		t.Errorf("%s: Lag %d, not %d", what, got, want)
	}
	if w, ok := s.Next(); want == 0 && (ok || !reflect.DeepEqual(w, wire.Word{})) {
		t.Errorf("%s: there is a Next: %v", what, w)
	}
}

// P22.1
func TestNewOfNil(t *testing.T) {
	if s := source.New(nil, 2); s != nil {
		t.Error(s)
	}
}

func TestTheImageGoes(t *testing.T) {
	z := made(t, 100)
	image := z.Image()
	if len(image) < 2*api.Chunk {
		t.Fatal(len(image))
	}
	s := source.New(z, 2)
	if s.Epoch() != 2 {
		t.Error(s.Epoch())
	}
	lags(t, "at first", s, -1)
	next(t, "at first", s, copies(5, image, 0))
	s.Hear(copied(5, api.Chunk))
	next(t, "the second piece", s, copies(5, image, api.Chunk))
	does(t, z, 1, 3)
	next(t, "the image stays what it was", s, copies(5, image, api.Chunk))
	s.Hear(copied(5, len(image)-1))
	lags(t, "nearly all", s, -1)
	next(t, "the last byte", s, copies(5, image, len(image)-1))
	s.Hear(copied(5, len(image)))
	lags(t, "it has come", s, 3)
	next(t, "the first entry", s, ships(6, 1))
	s.Hear(shipped(6))
	lags(t, "one is sure", s, 2)
	next(t, "the second entry", s, ships(7, 2))
	s.Hear(shipped(8))
	lags(t, "all are sure", s, 0)
	does(t, z, 4, 4)
	next(t, "one more", s, ships(9, 4))
}

func TestTheZoneHasItNoMore(t *testing.T) {
	z := made(t, 3)
	s := source.New(z, 2)
	does(t, z, 1, 2)
	s.Hear(copied(5, len(z.Image())))
	s.Hear(shipped(6))
	lags(t, "one is left", s, 1)
	if err := z.Set(zone.Head{ID: 3, Span: span, Epoch: 1, State: api.Frozen}); err != api.OK {
		t.Fatal(err)
	}
	w, ok := s.Next()
	if want := copies(7, z.Image(), 0); !ok || !reflect.DeepEqual(w, want) {
		t.Error(w)
	}
	lags(t, "nothing has come", s, -1)
	s.Hear(copied(5, len(z.Image())))
	lags(t, "of the old image", s, -1)
	s.Hear(copied(7, len(z.Image())))
	lags(t, "of the new one", s, 0)
}

// P22.2
func TestHearNothing(t *testing.T) {
	size := len(made(t, 3).Image())
	with := func(w wire.Word, f func(w *wire.Word)) wire.Word { f(&w); return w }
	for name, w := range map[string]wire.Word{
		"another zone":       with(copied(5, size), func(w *wire.Word) { w.Zone = 4 }),
		"another epoch":      with(copied(5, size), func(w *wire.Word) { w.Epoch = 1 }),
		"another number":     copied(6, size),
		"beyond":             copied(5, size+1),
		"below 0":            copied(5, -1),
		"far beyond":         copied(5, math.MaxInt),
		"below the image":    shipped(4),
		"above the last":     shipped(10),
		"shipped, elsewhere": with(shipped(7), func(w *wire.Word) { w.Zone = 4 }),
		"shipped, epoch":     with(shipped(7), func(w *wire.Word) { w.Epoch = 3 }),
		"a Copy":             with(copied(5, size), func(w *wire.Word) { w.Kind = wire.Copy }),
		"a Ship":             with(shipped(7), func(w *wire.Word) { w.Kind = wire.Ship }),
		"nothing":            {},
	} {
		z := made(t, 3)
		s := source.New(z, 2)
		does(t, z, 1, 4)
		first, _ := s.Next()
		s.Hear(w)
		lags(t, name, s, -1)
		next(t, name, s, first)
	}
}

func TestCopied(t *testing.T) {
	z := made(t, 60)
	image := z.Image()
	s := source.New(z, 2)
	s.Hear(copied(5, 700))
	next(t, "700", s, copies(5, image, 700))
	s.Hear(copied(5, 600))
	next(t, "less, late", s, copies(5, image, 700))
	s.Hear(copied(5, 0))
	next(t, "0: anew", s, copies(5, image, 0))
	s.Hear(copied(5, len(image)))
	lags(t, "all", s, 0)
	s.Hear(copied(5, 0))
	lags(t, "0, late", s, 0)
	does(t, z, 1, 1)
	s.Hear(copied(5, len(image)))
	lags(t, "all, once more", s, 1)
}

func TestShipped(t *testing.T) {
	z := made(t, 60)
	does(t, z, 1, 4)
	s := source.New(z, 2) // its image is of number 9
	does(t, z, 5, 8)
	s.Hear(copied(9, 700))
	s.Hear(shipped(11))
	lags(t, "the image has come, and more", s, 2)
	s.Hear(shipped(10))
	lags(t, "less, late", s, 2)
	next(t, "the entry behind", s, ships(12, 7))
	s.Hear(shipped(13))
	lags(t, "all", s, 0)
	s = source.New(z, 2)
	s.Hear(shipped(13))
	lags(t, "the image's number", s, 0)
}

// P22.3, P22.4
func TestNilSource(t *testing.T) {
	var s *source.Source
	s.Hear(copied(5, 9))
	if w, ok := s.Next(); ok || !reflect.DeepEqual(w, wire.Word{}) || s.Lag() != -1 || s.Epoch() != 0 {
		t.Error("a nil Source")
	}
}

func TestSureIsWhatWasTold(t *testing.T) {
	z := made(t, 3)
	size := len(z.Image())
	s := source.New(z, 2)
	told := 5
	s.Hear(copied(5, size))
	for i := 1; i <= 9; i++ {
		does(t, z, i, i)
		if i%3 == 0 {
			s.Hear(shipped(5 + i - 1))
			told = 5 + i - 1
		}
		lags(t, "so far", s, z.Last()-told)
		next(t, "so far", s, ships(told+1, told-4))
	}
}

func TestNewMemory(t *testing.T) {
	z := made(t, 3)
	image := z.Image()
	s := source.New(z, 2)
	w, _ := s.Next()
	clear(w.Data)
	next(t, "the image", s, copies(5, image, 0))
	s.Hear(copied(5, len(image)))
	does(t, z, 1, 1)
	w, _ = s.Next()
	clear(w.Data)
	next(t, "an entry", s, ships(6, 1))
	if p, _ := z.Entry(6); !bytes.Equal(p, ships(6, 1).Data) {
		t.Error("the zone's entry changed")
	}
}
