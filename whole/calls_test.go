package whole_test

import (
	"fmt"
	"maps"
	"math"
	"math/rand"
	"reflect"
	"slices"
	"strings"
	"testing"

	"satrapy/api"
	"satrapy/book"
	"satrapy/dir"
	"satrapy/disk"
	"satrapy/econ"
	"satrapy/frame"
	"satrapy/gate"
	"satrapy/host"
	"satrapy/journal"
	"satrapy/judge"
	"satrapy/keep"
	"satrapy/ledger"
	"satrapy/load"
	"satrapy/net"
	"satrapy/octet"
	"satrapy/op"
	"satrapy/piece"
	"satrapy/plan"
	"satrapy/purse"
	"satrapy/raft"
	"satrapy/seat"
	"satrapy/source"
	"satrapy/span"
	"satrapy/target"
	"satrapy/tool"
	"satrapy/vault"
	"satrapy/wire"
	"satrapy/world"
	"satrapy/zone"
)

// W1: every call ends and none panics, at all numbers, texts, lists and objects: nil ones, zero ones, and
// those that were begun.

// drawn is values of all types, drawn.
type drawn struct {
	*rand.Rand
	pool map[reflect.Type][]reflect.Value // objects that were begun
}

func (d *drawn) number() int64 {
	l := []int64{0, 1, 2, 3, 7, 8, 9, 32, 40, -1, -2, 1 << 10, 1 << 20, 1<<40 - 1, 1 << 40, 1<<40 + 1, 1 << 60, 1 << 62, math.MaxInt64, math.MinInt64}
	return l[d.Intn(len(l))]
}

func (d *drawn) text() string {
	l := []string{"", "a", "m", "z", "ab", "z1", "host", "\x00", "\xff", strings.Repeat("k", 16), strings.Repeat("k", 17), strings.Repeat("n", 70)}
	return l[d.Intn(len(l))]
}

// some is a value of a type.
func (d *drawn) some(t reflect.Type, depth int) reflect.Value {
	v := reflect.New(t).Elem()
	switch t.Kind() {
	case reflect.Int, reflect.Int64:
		v.SetInt(d.number())
	case reflect.Uint8, reflect.Uint32:
		v.SetUint(uint64(d.Intn(256)))
	case reflect.Bool:
		v.SetBool(d.Intn(2) == 0)
	case reflect.String:
		v.SetString(d.text())
	case reflect.Slice:
		if t.Elem().Kind() == reflect.Uint8 {
			b := make([]byte, d.Intn(40))
			d.Read(b)
			v.SetBytes(b)
			break
		}
		for range d.Intn(4) {
			v.Set(reflect.Append(v, d.some(t.Elem(), depth+1)))
		}
	case reflect.Array:
		for i := range v.Len() {
			v.Index(i).Set(d.some(t.Elem(), depth+1))
		}
	case reflect.Struct:
		for i := range v.NumField() {
			if f := v.Field(i); f.CanSet() && d.Intn(3) > 0 {
				f.Set(d.some(f.Type(), depth+1))
			}
		}
	case reflect.Pointer:
		switch l := d.pool[t]; {
		case len(l) > 0 && d.Intn(4) > 0:
			v.Set(l[d.Intn(len(l))])
		case d.Intn(2) == 0:
			v.Set(reflect.New(t.Elem()))
		}
	}
	return v
}

// call calls a function with what is drawn; what it answers of objects may be asked later.
func (d *drawn) call(t *testing.T, name string, f reflect.Value) {
	t.Helper()
	var args []reflect.Value
	for i := range f.Type().NumIn() {
		args = append(args, d.some(f.Type().In(i), 0))
	}
	defer func() {
		if x := recover(); x != nil {
			var l []string
			for _, a := range args {
				l = append(l, fmt.Sprintf("%+v", a))
			}
			t.Errorf("%s(%s): %v", name, strings.Join(l, ", "), x)
		}
	}()
	var answers []reflect.Value
	if f.Type().IsVariadic() {
		answers = f.CallSlice(args)
	} else {
		answers = f.Call(args)
	}
	for _, a := range answers {
		if a.Kind() == reflect.Pointer && !a.IsNil() && len(d.pool[a.Type()]) < 20 {
			d.pool[a.Type()] = append(d.pool[a.Type()], a)
		}
	}
}

// asked is the methods of an object that chapters list: those that are its own.
func asked(v reflect.Value) (l []int) {
	for i := range v.NumMethod() {
		name := v.Type().Method(i).Name
		if _, node := v.Interface().(*raft.Node); node && !strings.Contains(" Tick Hear Propose Change Ask Reads Take Compact State Log Nodes ", " "+name+" ") {
			continue // promoted ones are the journal's
		}
		l = append(l, i)
	}
	return l
}

func functions() map[string]any {
	return map[string]any{
		"octet.NewReader": octet.NewReader, "octet.Join": octet.Join, "octet.Sum": octet.Sum,
		"frame.Encode": frame.Encode, "frame.Decode": frame.Decode, "frame.One": frame.One, "frame.Scan": frame.Scan,
		"disk.New": disk.New, "keep.Save": keep.Save, "keep.Load": keep.Load, "keep.Clear": keep.Clear,
		"journal.Open": journal.Open, "raft.Open": raft.Open, "net.New": net.New,
		"purse.Is": purse.Is, "purse.One": purse.One, "purse.Add": purse.Add, "purse.Sub": purse.Sub, "purse.Less": purse.Less, "purse.Encode": purse.Encode, "purse.Decode": purse.Decode,
		"book.New": book.New, "book.Of": book.Of,
		"op.May": op.May, "op.Encode": op.Encode, "op.Decode": op.Decode, "op.EncodeReply": op.EncodeReply, "op.DecodeReply": op.DecodeReply, "op.Key": op.Key,
		"vault.New": vault.New, "vault.Decode": vault.Decode,
		"span.Is": span.Is, "span.In": span.In, "span.Within": span.Within, "span.Cut": span.Cut, "span.Join": span.Join, "span.All": span.All,
		"econ.New": econ.New, "econ.Decode": econ.Decode, "ledger.Open": ledger.Open, "zone.Make": zone.Make, "zone.Open": zone.Open,
		"dir.New": dir.New, "dir.Of": dir.Of, "dir.Encode": dir.Encode, "dir.Decode": dir.Decode, "dir.EncodeChange": dir.EncodeChange, "dir.DecodeChange": dir.DecodeChange,
		"wire.May": wire.May, "wire.Encode": wire.Encode, "wire.Decode": wire.Decode, "seat.Open": seat.Open,
		"load.New": load.New, "load.Sum": load.Sum, "plan.Make": plan.Make, "piece.New": piece.New, "piece.Begin": piece.Begin,
		"source.New": source.New, "target.New": target.New, "host.Open": host.Open, "gate.New": gate.New, "world.New": world.New,
		"judge.Order": judge.Order, "judge.Wrong": judge.Wrong, "judge.Twice": judge.Twice, "judge.Total": judge.Total, "judge.Parts": judge.Parts,
		"tool.Run": tool.Run,
	}
}

// begun is objects of all sorts, nil ones and zero ones among them.
func (d *drawn) begun(t *testing.T) {
	room := func() *disk.Disk {
		x, _ := disk.New(1 << 16)
		return x
	}
	w, _ := world.New(world.Config{Seats: 1, Hosts: 2, Gates: 1, Room: 1 << 16})
	w.Do(world.Step{Kind: world.StepRest, N: 25})
	j, _ := journal.Open(room(), "p", 0, 1)
	n, _ := raft.Open(0, room(), "p", 0, 0)
	l, _ := ledger.Open(room(), "p")
	z, _ := zone.Make(room(), zone.Head{ID: 1, Epoch: 1, State: api.Serving}, 0, econ.New().Encode())
	c, _ := zone.Make(room(), zone.Head{ID: 1, Epoch: 2, State: api.Coming}, 0, econ.New().Encode())
	x, _ := dir.New(8, 9)
	s, _ := seat.Open(0, room(), 0, 1, 8, 9)
	in, _ := piece.Begin(9)
	h, _ := host.Open(8, room(), 1)
	g, _ := gate.New(32, 2)
	for _, o := range []any{
		&octet.Writer{}, octet.NewReader([]byte{1, 2, 3}), room(), j, n, net.New(), book.New(), vault.New(), econ.New(), l, z, c, x, s, load.New(),
		piece.New([]byte("abc")), in, source.New(z, 2), target.New(room()), h, g, w, w.Host(8), w.Seat(0), w.Gate(32),
	} {
		v := reflect.ValueOf(o)
		if v.IsNil() {
			t.Fatalf("%T is nil", o)
		}
		d.pool[v.Type()] = append(d.pool[v.Type()], v)
	}
}

func TestNoCallPanics(t *testing.T) {
	for seed := range 20 {
		d := &drawn{rand.New(rand.NewSource(int64(seed))), map[reflect.Type][]reflect.Value{}}
		d.begun(t)
		all := functions()
		var objects []reflect.Type
		for _, o := range []any{(*octet.Writer)(nil), (*octet.Reader)(nil), (*disk.Disk)(nil), (*journal.Journal)(nil), (*raft.Node)(nil), (*net.Net)(nil), (*book.Book)(nil), (*vault.Vault)(nil), (*econ.Econ)(nil), (*ledger.Ledger)(nil), (*zone.Zone)(nil), (*dir.Dir)(nil), (*seat.Seat)(nil), (*load.Load)(nil), (*piece.Out)(nil), (*piece.In)(nil), (*source.Source)(nil), (*target.Target)(nil), (*host.Host)(nil), (*gate.Gate)(nil), (*world.World)(nil)} {
			objects = append(objects, reflect.TypeOf(o))
		}
		for range 40 {
			for _, name := range slices.Sorted(maps.Keys(all)) {
				d.call(t, name, reflect.ValueOf(all[name]))
			}
			for _, typ := range objects {
				for _, v := range []reflect.Value{reflect.Zero(typ), reflect.New(typ.Elem()), d.pool[typ][d.Intn(len(d.pool[typ]))]} {
					for _, i := range asked(v) {
						if w, ok := v.Interface().(*world.World); ok && w != nil && d.Intn(4) > 0 {
							continue // a step may be a long rest
						}
						d.call(t, fmt.Sprint(typ, ".", typ.Method(i).Name), v.Method(i))
					}
				}
			}
			if t.Failed() {
				t.Fatal("seed", seed)
			}
		}
	}
}
