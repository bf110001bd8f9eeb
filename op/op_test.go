package op_test

import (
	"bytes"
	"fmt"
	"math"
	"strings"
	"testing"

	"satrapy/api"
	"satrapy/octet"
	"satrapy/op"
)

var (
	at   = api.Place{Key: "a", Who: "b"}
	to   = api.Place{Key: "cc", Who: "\xff"}
	long = strings.Repeat("k", 16)
)

// good is a request of each Kind that may be.
func good() map[int]api.Op {
	return map[int]api.Op{
		api.OpMint:   {Kind: 1, Client: 3, Seq: 4, At: at, Item: 0, Count: 5},
		api.OpSend:   {Kind: 2, Client: 3, Seq: 4, At: at, To: to, Item: 3, Count: 5},
		api.OpOrder:  {Kind: 3, Client: 3, Seq: 4, At: at, Item: 1, Count: 5, Price: 6},
		api.OpCancel: {Kind: 4, Client: 3, Seq: 4, At: at, ID: 7},
		api.OpLook:   {Kind: 5, Client: 3, Seq: 4, At: at},
		api.OpArrive: {Kind: 6, Client: 3, Seq: 4, At: at, Item: 2, Count: 5},
		api.OpDone:   {Kind: 7, Client: 3, Seq: 4, At: at},
	}
}

// has tells what else a Kind may have.
func has(kind int, field string) bool {
	fields := map[int]string{1: "Item Count", 2: "To Item Count", 3: "Item Count Price Buy", 4: "ID", 6: "Item Count"}
	return strings.Contains(" "+fields[kind]+" ", " "+field+" ")
}

// raw is a request's bytes, whether it may be or not.
func raw(o api.Op, buy int) []byte {
	var w octet.Writer
	w.Nums(o.Kind, o.Client, o.Seq)
	w.Bytes([]byte(o.At.Key), []byte(o.At.Who), []byte(o.To.Key), []byte(o.To.Who))
	w.Nums(o.Item, o.Count, o.Price, buy, o.ID)
	return w.Out()
}

func yes(b bool) int {
	if b {
		return 1
	}
	return 0
}

// variants is requests of all Kinds, and whether they may be.
func variants() map[string]struct {
	o   api.Op
	may bool
} {
	type row = struct {
		o   api.Op
		may bool
	}
	m := map[string]row{}
	for kind, g := range good() {
		add := func(name string, may bool, f func(o *api.Op)) {
			o := g
			f(&o)
			m[fmt.Sprint(kind, " ", name)] = row{o, may}
		}
		number := func(name string, field func(o *api.Op) *int, least, most int, zero bool) {
			for _, n := range []int{math.MinInt, -1, 0, 1, 2, 3, 4, least - 1, least, most, most + 1, math.MaxInt} {
				may := n >= least && n <= most
				if zero {
					may = n == 0
				}
				add(fmt.Sprint(name, " ", n), may, func(o *api.Op) { *field(o) = n })
			}
		}
		least := 0
		if kind == api.OpOrder {
			least = 1
		}
		number("Client", func(o *api.Op) *int { return &o.Client }, 1, 1<<20, false)
		number("Seq", func(o *api.Op) *int { return &o.Seq }, 1, 1<<40, false)
		number("Item", func(o *api.Op) *int { return &o.Item }, least, 3, !has(kind, "Item"))
		number("Count", func(o *api.Op) *int { return &o.Count }, 1, api.MaxCount, !has(kind, "Count"))
		number("Price", func(o *api.Op) *int { return &o.Price }, 1, api.MaxPrice, !has(kind, "Price"))
		number("ID", func(o *api.Op) *int { return &o.ID }, 1, 1<<40, !has(kind, "ID"))
		add("as it is", true, func(o *api.Op) {})
		add("Buy", has(kind, "Buy"), func(o *api.Op) { o.Buy = true })
		for name, p := range map[string]api.Place{"no key": {Who: "b"}, "nobody": {Key: "a"}, "none": {}, "long key": {Key: long + "k", Who: "b"}, "long who": {Key: "a", Who: long + "k"}} {
			add("At "+name, false, func(o *api.Op) { o.At = p })
			add("To "+name, name == "none" && !has(kind, "To"), func(o *api.Op) { o.To = p })
		}
		add("At is long", true, func(o *api.Op) { o.At = api.Place{Key: long, Who: long} })
		add("To is long", has(kind, "To"), func(o *api.Op) { o.To = api.Place{Key: long, Who: long} })
		add("To", has(kind, "To"), func(o *api.Op) { o.To = to })
		add("To is At", has(kind, "To"), func(o *api.Op) { o.To = at })
	}
	for _, kind := range []int{0, -1, 8, math.MinInt, math.MaxInt} {
		o := good()[api.OpLook]
		o.Kind = kind
		m[fmt.Sprint("kind ", kind)] = row{o, false}
	}
	m["nothing"] = row{api.Op{}, false}
	return m
}

// P10.1
func TestMay(t *testing.T) {
	for name, v := range variants() {
		if op.May(v.o) != v.may {
			t.Errorf("%s: May is not %v", name, v.may)
		}
		b, err := op.Encode(v.o)
		if v.may {
			if err != api.OK || !bytes.Equal(b, raw(v.o, yes(v.o.Buy))) {
				t.Errorf("%s: Encode % x, %v", name, b, err)
			}
		} else if err != api.ErrArg || len(b) != 0 {
			t.Errorf("%s: Encode % x, %v", name, b, err)
		}
	}
}

func TestEncode(t *testing.T) {
	b, err := op.Encode(api.Op{Kind: api.OpLook, Client: 1, Seq: 2, At: at})
	if err != api.OK || !bytes.Equal(b, []byte{5, 1, 2, 1, 'a', 1, 'b', 0, 0, 0, 0, 0, 0, 0}) {
		t.Errorf("% x, %v", b, err)
	}
	o := api.Op{Kind: api.OpOrder, Client: 1, Seq: 300, At: at, Item: 1, Count: 5, Price: 6, Buy: true}
	if b, err := op.Encode(o); err != api.OK || !bytes.Equal(b, []byte{3, 1, 0xac, 2, 1, 'a', 1, 'b', 0, 0, 1, 5, 6, 1, 0}) {
		t.Errorf("% x, %v", b, err)
	}
}

func TestDecode(t *testing.T) {
	for name, v := range variants() {
		o := v.o
		if min(o.Kind, o.Client, o.Seq, o.Item, o.Count, o.Price, o.ID) < 0 {
			continue // no bytes tell of a number below 0
		}
		got, err := op.Decode(raw(o, yes(o.Buy)))
		if v.may && (err != api.OK || got != o) || !v.may && (err != api.ErrForm || got != api.Op{}) {
			t.Errorf("%s: %v, %v", name, got, err)
		}
	}
	b := raw(good()[api.OpOrder], 1)
	long := append([]byte{0x83, 0}, b[1:]...)
	for name, b := range map[string][]byte{
		"nothing":       nil,
		"one byte less": b[:len(b)-1],
		"one byte more": append(bytes.Clone(b), 0),
		"Buy of 2":      raw(good()[api.OpOrder], 2),
		"a long number": long,
	} {
		if o, err := op.Decode(b); err != api.ErrForm || o != (api.Op{}) {
			t.Error(name, o, err)
		}
	}
}

// P10.2
func TestReplies(t *testing.T) {
	rawReply := func(r api.Reply) []byte {
		var w octet.Writer
		w.Nums(int(r.Err), r.ID)
		w.Nums(r.Has[:]...)
		return w.Out()
	}
	for _, c := range []struct {
		r   api.Reply
		may bool
	}{
		{api.Reply{}, true},
		{api.Reply{Err: 19, ID: 1 << 40, Has: api.Items{1, api.MaxHold, 300, 4}}, true},
		{api.Reply{Err: 20}, false},
		{api.Reply{Err: -1}, false},
		{api.Reply{Err: math.MaxInt}, false},
		{api.Reply{ID: -1}, false},
		{api.Reply{ID: 1<<40 + 1}, false},
		{api.Reply{Has: api.Items{0, 0, 0, -1}}, false},
		{api.Reply{Has: api.Items{api.MaxHold + 1}}, false},
	} {
		b, err := op.EncodeReply(c.r)
		if c.may && (err != api.OK || !bytes.Equal(b, rawReply(c.r))) || !c.may && (err != api.ErrArg || len(b) != 0) {
			t.Errorf("EncodeReply(%v): % x, %v", c.r, b, err)
		}
		if c.r.Err < 0 || c.r.ID < 0 || c.r.Has[3] < 0 {
			continue
		}
		r, err := op.DecodeReply(rawReply(c.r))
		if c.may && (err != api.OK || r != c.r) || !c.may && (err != api.ErrForm || r != api.Reply{}) {
			t.Errorf("DecodeReply of %v: %v, %v", c.r, r, err)
		}
	}
	b := rawReply(api.Reply{Err: 3, ID: 4})
	for name, b := range map[string][]byte{"nothing": nil, "less": b[:5], "more": append(bytes.Clone(b), 0), "a long number": append([]byte{0x83, 0}, b[1:]...)} {
		if r, err := op.DecodeReply(b); err != api.ErrForm || r != (api.Reply{}) {
			t.Error(name, r, err)
		}
	}
	if b, _ := op.EncodeReply(api.Reply{Err: 1, ID: 2, Has: api.Items{3, 4, 5, 6}}); !bytes.Equal(b, []byte{1, 2, 3, 4, 5, 6}) {
		t.Errorf("% x", b)
	}
}

func TestKey(t *testing.T) {
	if op.Key(api.Op{At: at, To: to}) != "a" || op.Key(api.Op{}) != "" || op.Key(api.Op{At: api.Place{Key: long + long}}) != long+long {
		t.Error("Key")
	}
}

// P10.3
func TestDecodeOfEncode(t *testing.T) {
	for _, o := range good() {
		b, _ := op.Encode(o)
		again, _ := op.Encode(o)
		clear(b)
		got, err := op.Decode(again)
		if err != api.OK || got != o {
			t.Error(o, got, err)
		}
		was := bytes.Clone(again)
		clear(again)
		if got != o || bytes.Equal(again, was) {
			t.Error("a request changed with the bytes")
		}
	}
}
