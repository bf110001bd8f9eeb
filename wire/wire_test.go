package wire_test

import (
	"bytes"
	"fmt"
	"math"
	"reflect"
	"strings"
	"testing"

	"satrapy/api"
	"satrapy/dir"
	"satrapy/frame"
	"satrapy/octet"
	"satrapy/op"
	"satrapy/wire"
)

const top = 1 << 40

func someMap() api.Map {
	return api.Map{Version: 4, Next: 3, Zones: []api.Zone{{ID: 1, Span: api.Span{To: "m"}, Owner: 8, Epoch: 2}, {ID: 2, Span: api.Span{From: "m"}, Owner: 9, Epoch: 2}}}
}

var (
	someChange = api.Change{Kind: api.DirMove, Zone: 3, To: 9}
	someOp     = api.Op{Kind: api.OpMint, Client: 3, Seq: 4, At: api.Place{Key: "a", Who: "b"}, Item: 1, Count: 5}
	someReply  = api.Reply{Err: api.ErrFunds, ID: 3, Has: api.Items{1, 2, 3, 4}}
	someSpan   = api.Span{From: "b", To: "d"}
)

// good is a word of each Kind that may be.
func good() map[int]wire.Word {
	return map[int]wire.Word{
		wire.Raft:    {Kind: 1, Data: []byte("raft")},
		wire.Pull:    {Kind: 2, Index: 3},
		wire.Tell:    {Kind: 3, Map: someMap()},
		wire.Ask:     {Kind: 4, Change: someChange},
		wire.Call:    {Kind: 5, Op: someOp},
		wire.Answer:  {Kind: 6, Op: api.Op{Kind: 1, Client: 3, Seq: 4}, Reply: someReply, Host: 9},
		wire.Copy:    {Kind: 7, Zone: 1, Epoch: 2, Index: 3, Size: 9, Offset: 5, Span: someSpan, Data: []byte("data")},
		wire.Copied:  {Kind: 8, Zone: 1, Epoch: 2, Index: 3, Offset: 5},
		wire.Ship:    {Kind: 9, Zone: 1, Epoch: 2, Index: 3, Data: []byte("entry")},
		wire.Shipped: {Kind: 10, Zone: 1, Epoch: 2, Index: 3},
	}
}

// fields names what each Kind has.
func fields(kind int) string {
	return []string{"", "Data", "Index", "Map", "Change", "Op", "Op Err Reply Host", "Zone Epoch Index Size Offset Span Data", "Zone Epoch Index Offset", "Zone Epoch Index Data", "Zone Epoch Index"}[kind]
}

func has(kind int, field string) bool { return strings.Contains(" "+fields(kind)+" ", " "+field+" ") }

// raw is a word's bytes by hand.
func raw(w wire.Word) []byte {
	var row octet.Writer
	row.Nums(w.Kind, w.Zone, w.Epoch, w.Index, w.Size, w.Offset, w.Host, int(w.Err))
	row.Bytes([]byte(w.Span.From), []byte(w.Span.To))
	switch w.Kind {
	case wire.Tell:
		row.Bytes(dir.Encode(w.Map))
	case wire.Ask:
		b, _ := dir.EncodeChange(w.Change)
		row.Bytes(b)
	case wire.Call:
		b, _ := op.Encode(w.Op)
		row.Bytes(b)
	case wire.Answer:
		row.Nums(w.Op.Kind, w.Op.Client, w.Op.Seq)
		b, _ := op.EncodeReply(w.Reply)
		row.Bytes(b)
	default:
		row.Bytes(w.Data)
	}
	b, _ := frame.Encode(row.Out())
	return b
}

type variant struct {
	w   wire.Word
	may bool
}

// variants is words of all Kinds, and whether they may be.
func variants() map[string]variant {
	m := map[string]variant{}
	for kind, g := range good() {
		add := func(name string, may bool, f func(w *wire.Word)) {
			w := g
			f(&w)
			m[fmt.Sprint(kind, " ", name)] = variant{w, may}
		}
		number := func(name string, field func(w *wire.Word) *int, least, most int) {
			for _, n := range []int{math.MinInt, -1, 0, 1, least - 1, least, most, most + 1, math.MaxInt} {
				may := n >= least && n <= most
				if !has(kind, name) {
					may = n == 0
				}
				add(fmt.Sprint(name, " ", n), may, func(w *wire.Word) { *field(w) = n })
			}
		}
		add("good", true, func(w *wire.Word) {})
		number("Zone", func(w *wire.Word) *int { return &w.Zone }, 1, top)
		number("Epoch", func(w *wire.Word) *int { return &w.Epoch }, 1, top)
		number("Index", func(w *wire.Word) *int { return &w.Index }, 0, top)
		number("Host", func(w *wire.Word) *int { return &w.Host }, 0, top)
		if kind == wire.Copy {
			number("Size", func(w *wire.Word) *int { return &w.Size }, 9, 1<<19)
			number("Offset", func(w *wire.Word) *int { return &w.Offset }, 0, 5)
		} else {
			number("Size", func(w *wire.Word) *int { return &w.Size }, 1, 1<<19)
			number("Offset", func(w *wire.Word) *int { return &w.Offset }, 0, top)
		}
		add("a Map", has(kind, "Map"), func(w *wire.Word) { w.Map = someMap() })
		add("a Map's Version", false, func(w *wire.Word) { w.Map.Version = -1 })
		add("a Map's Next", false, func(w *wire.Word) { w.Map.Next = -1 })
		add("a Map's zone", false, func(w *wire.Word) { w.Map.Zones = []api.Zone{{ID: 1}} })
		add("a Map's zone below 0", false, func(w *wire.Word) { w.Map = someMap(); w.Map.Zones[1].To = -1 })
		add("a Change", has(kind, "Change"), func(w *wire.Word) { w.Change = someChange })
		add("no Change", false, func(w *wire.Word) { w.Change = api.Change{Kind: 1} })
		add("an Op", kind == wire.Call, func(w *wire.Word) { w.Op = someOp })
		add("no Op", false, func(w *wire.Word) { w.Op = api.Op{Kind: 1, Seq: 2} })
		add("a Reply", has(kind, "Reply"), func(w *wire.Word) { w.Reply = someReply })
		add("no Reply", false, func(w *wire.Word) { w.Reply.ID = -1 })
		add("a Reply's Has", false, func(w *wire.Word) { w.Reply.Has[2] = api.MaxHold + 1 })
		add("an Err", false, func(w *wire.Word) { w.Err = 3; w.Reply.ID = 7 })
		add("a Span", has(kind, "Span"), func(w *wire.Word) { w.Span = api.Span{From: "x"} })
		add("no Span", false, func(w *wire.Word) { w.Span = api.Span{From: "x", To: "a"} })
		add("Data", has(kind, "Data"), func(w *wire.Word) { w.Data = []byte("1234") })
		add("a byte of Data", has(kind, "Data"), func(w *wire.Word) { w.Data = []byte{7} })
		add("empty Data", !has(kind, "Data"), func(w *wire.Word) { w.Data = []byte{} })
		add("much Data", kind == wire.Raft || kind == wire.Ship, func(w *wire.Word) { w.Data = make([]byte, 1<<17) })
		add("more Data", false, func(w *wire.Word) { w.Data = make([]byte, 1<<17+1) })
	}
	copied := func(name string, may bool, size, offset, n int) {
		w := good()[wire.Copy]
		w.Size, w.Offset, w.Data = size, offset, make([]byte, n)
		m["a Copy "+name] = variant{w, may}
	}
	copied("of one byte", true, 1, 0, 1)
	copied("of Chunk", true, 1<<19, 1<<19-api.Chunk, api.Chunk)
	copied("of more", false, 1<<19, 0, api.Chunk+1)
	copied("beyond", false, 1<<19, 1<<19-api.Chunk+1, api.Chunk)
	copied("of great numbers", false, 1<<19, math.MaxInt, 1)
	answer := func(name string, may bool, f func(w *wire.Word)) {
		w := good()[wire.Answer]
		f(&w)
		m["an Answer "+name] = variant{w, may}
	}
	for _, n := range []int{0, 1, 7, 8, -1, math.MaxInt} {
		answer(fmt.Sprint("of Kind ", n), n >= 1 && n <= 7, func(w *wire.Word) { w.Op.Kind = n })
	}
	for _, n := range []int{0, 1, 1 << 20, 1<<20 + 1, -1, math.MinInt} {
		answer(fmt.Sprint("of Client ", n), n >= 1 && n <= 1<<20, func(w *wire.Word) { w.Op.Client = n })
	}
	for _, n := range []int{0, 1, top, top + 1, -1, math.MinInt} {
		answer(fmt.Sprint("of Seq ", n), n >= 1 && n <= top, func(w *wire.Word) { w.Op.Seq = n })
	}
	for _, n := range []api.Errno{0, 1, 19, 20, -1, math.MaxInt} {
		answer(fmt.Sprint("of Err ", int(n)), n >= 0 && n <= 19, func(w *wire.Word) { w.Err, w.Reply = n, api.Reply{} })
	}
	answer("with an Op's place", false, func(w *wire.Word) { w.Op.At.Key = "a" })
	answer("with an Op's Count", false, func(w *wire.Word) { w.Op.Count = 1 })
	for _, kind := range []int{0, 11, -1, math.MinInt, math.MaxInt} {
		m[fmt.Sprint("kind ", kind)] = variant{wire.Word{Kind: kind, Data: []byte("x")}, false}
		m[fmt.Sprint("bare kind ", kind)] = variant{wire.Word{Kind: kind}, false}
	}
	return m
}

// P17.1
func TestEncode(t *testing.T) {
	for name, v := range variants() {
		if wire.May(v.w) != v.may {
			t.Errorf("%s: May is not %v", name, v.may)
		}
		b, err := wire.Encode(v.w)
		if v.may && (err != api.OK || !bytes.Equal(b, raw(v.w))) {
			t.Errorf("%s: % x, %v", name, b, err)
		}
		if !v.may && (err != api.ErrArg || len(b) != 0) {
			t.Errorf("%s: % x, %v", name, b, err)
		}
	}
	if b, _ := wire.Encode(wire.Word{Kind: wire.Pull, Index: 3}); len(b) != 23 {
		t.Error(len(b))
	}
}

// P17.2
func TestDecode(t *testing.T) {
	for kind, w := range good() {
		b := raw(w)
		if got, err := wire.Decode(b); err != api.OK || !same(got, w) {
			t.Error(kind, got, err)
		}
		for name, c := range map[string]struct {
			b    []byte
			want api.Errno
		}{
			"nothing":     {nil, api.ErrShort},
			"less":        {b[:len(b)-1], api.ErrShort},
			"more":        {append(bytes.Clone(b), 0), api.ErrForm},
			"two":         {append(bytes.Clone(b), b...), api.ErrForm},
			"no numbers":  {record(nil), api.ErrForm},
			"a tail":      {record(append(body(t, b), 0)), api.ErrForm},
			"cut":         {record(body(t, b)[:len(body(t, b))-1]), api.ErrForm},
			"a long kind": {record(append([]byte{byte(kind) | 0x80, 0}, body(t, b)[1:]...)), api.ErrForm},
		} {
			if got, err := wire.Decode(c.b); err != c.want || !same(got, wire.Word{}) {
				t.Error(kind, name, got, err)
			}
		}
	}
	for name, v := range variants() {
		w := v.w
		low := min(w.Kind, w.Zone, w.Epoch, w.Index, w.Size, w.Offset, w.Host, int(w.Err), w.Op.Kind, w.Op.Client, w.Op.Seq) < 0
		if low || v.may || !seen(w) {
			continue // bytes by hand don't tell of it
		}
		if got, err := wire.Decode(raw(w)); err != api.ErrForm || !same(got, wire.Word{}) {
			t.Error(name, got, err)
		}
	}
}

// seen tells whether what is wrong with a word stands in its bytes by hand.
func seen(w wire.Word) bool {
	g, ok := good()[w.Kind]
	if !ok {
		return true
	}
	return !bytes.Equal(raw(w), raw(g)) && !(w.Kind == wire.Tell && (w.Map.Version < 0 || w.Map.Next < 0 || len(w.Map.Zones) == 2))
}

func body(t *testing.T, b []byte) []byte {
	p, err := frame.One(b)
	if err != api.OK {
		t.Fatal(err)
	}
	return p
}

func record(p []byte) []byte {
	b, _ := frame.Encode(p)
	return b
}

// same tells whether two words are alike, a nil list being an empty one.
func same(a, b wire.Word) bool {
	if len(a.Data) == 0 && len(b.Data) == 0 {
		a.Data, b.Data = nil, nil
	}
	if len(a.Map.Zones) == 0 && len(b.Map.Zones) == 0 {
		a.Map.Zones, b.Map.Zones = nil, nil
	}
	return reflect.DeepEqual(a, b)
}

// P17.3
func TestDecodeOfEncode(t *testing.T) {
	for name, v := range variants() {
		if !v.may {
			continue
		}
		b, _ := wire.Encode(v.w)
		if got, err := wire.Decode(b); err != api.OK || !same(got, v.w) {
			t.Error(name, got, err)
		}
	}
}

func TestOneByteIsEnoughToRefuse(t *testing.T) {
	for kind, w := range good() {
		b, _ := wire.Encode(w)
		for i := range b {
			for _, by := range []byte{1, 2, 0x10, 0x80, 0xff} {
				b[i] ^= by
				if got, err := wire.Decode(b); err == api.OK || !same(got, wire.Word{}) {
					t.Fatal(kind, i, by)
				}
				b[i] ^= by
			}
		}
	}
}

func TestNewMemory(t *testing.T) {
	w := good()[wire.Copy]
	b, _ := wire.Encode(w)
	got, _ := wire.Decode(b)
	clear(b)
	if string(got.Data) != "data" || string(w.Data) != "data" {
		t.Errorf("%q %q", got.Data, w.Data)
	}
	tell := good()[wire.Tell]
	b, _ = wire.Encode(tell)
	tell.Map.Zones[0].Owner = 10
	if got, _ := wire.Decode(b); got.Map.Zones[0].Owner != 8 {
		t.Error(got)
	}
}
