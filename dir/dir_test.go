package dir_test

import (
	"bytes"
	"fmt"
	"math"
	"math/rand"
	"reflect"
	"slices"
	"strings"
	"testing"

	"satrapy/api"
	"satrapy/dir"
	"satrapy/octet"
	"satrapy/span"
)

const top = 1 << 40

func made(t *testing.T, hosts ...int) *dir.Dir {
	t.Helper()
	d, err := dir.New(hosts...)
	if err != api.OK || d == nil {
		t.Fatal("New:", err)
	}
	return d
}

func of(t *testing.T, m api.Map, hosts ...int) *dir.Dir {
	t.Helper()
	d, err := dir.Of(m, hosts...)
	if err != api.OK || d == nil {
		t.Fatal("Of:", err)
	}
	return d
}

// applies lets a change be Applied that is to say so.
func applies(t *testing.T, d *dir.Dir, c api.Change, want bool) {
	t.Helper()
	was := d.Map()
	if d.Would(c) != want || !reflect.DeepEqual(d.Map(), was) {
		t.Errorf("Would(%v) is not %v, or changed something", c, want)
	}
	if d.Apply(c) != want {
		t.Errorf("Apply(%v) is not %v", c, want)
	}
	now := d.Map()
	if !want && !reflect.DeepEqual(now, was) || want && now.Version != was.Version+1 {
		t.Errorf("Apply(%v): %v", c, now)
	}
}

func split(zone int, key string) api.Change {
	return api.Change{Kind: api.DirSplit, Zone: zone, Key: key}
}
func merge(zone int) api.Change { return api.Change{Kind: api.DirMerge, Zone: zone} }
func move(zone, to int) api.Change {
	return api.Change{Kind: api.DirMove, Zone: zone, To: to}
}
func done(zone, epoch int) api.Change {
	return api.Change{Kind: api.DirDone, Zone: zone, Epoch: epoch}
}
func abort(zone, epoch int) api.Change {
	return api.Change{Kind: api.DirAbort, Zone: zone, Epoch: epoch}
}

// z is a zone without anything under way.
func z(id int, from, to string, owner, epoch int) api.Zone {
	return api.Zone{ID: id, Span: api.Span{From: from, To: to}, Owner: owner, Epoch: epoch}
}

func pend(z api.Zone, kind, to int, key string, other int) api.Zone {
	z.Pend, z.To, z.Key, z.New = kind, to, key, other
	return z
}

func holds(t *testing.T, d *dir.Dir, version, next int, zones ...api.Zone) {
	t.Helper()
	if m := d.Map(); m.Version != version || m.Next != next || !slices.Equal(m.Zones, zones) {
		t.Errorf("the map is %v, not %d %d %v", m, version, next, zones)
	}
}

func mapOf(zones ...api.Zone) api.Map { return api.Map{Version: 5, Next: 50, Zones: zones} }

// P16.1
func TestHosts(t *testing.T) {
	for _, hosts := range [][]int{nil, {7}, {14}, {8, 8}, {9, 8}, {8, 9, 10, 11, 12, 13, 14}, {math.MinInt}, {math.MaxInt}, {0}, {8, 14}} {
		if d, err := dir.New(hosts...); err != api.ErrArg || d != nil {
			t.Error(hosts, err)
		}
		if d, err := dir.Of(api.Map{}, hosts...); err != api.ErrArg || d != nil {
			t.Error(hosts, err)
		}
	}
	holds(t, made(t, 9, 13), 1, 2, z(1, "", "", 9, 1))
	holds(t, made(t, 8, 9, 10, 11, 12, 13), 1, 2, z(1, "", "", 8, 1))
}

// wrong is maps that may not be.
func wrong() map[string]api.Map {
	long := strings.Repeat("k", 17)
	a, b := z(1, "", "m", 8, 1), z(2, "m", "", 8, 1)
	m := map[string]api.Map{
		"nothing":          {},
		"no zones":         mapOf(),
		"Version 0":        {Version: 0, Next: 2, Zones: []api.Zone{z(1, "", "", 8, 1)}},
		"Version":          {Version: top + 1, Next: 2, Zones: []api.Zone{z(1, "", "", 8, 1)}},
		"Version below 0":  {Version: -1, Next: 2, Zones: []api.Zone{z(1, "", "", 8, 1)}},
		"Next 0":           {Version: 1, Next: 0, Zones: []api.Zone{z(1, "", "", 8, 1)}},
		"Next":             {Version: 1, Next: top + 1, Zones: []api.Zone{z(1, "", "", 8, 1)}},
		"Next is an ID":    {Version: 1, Next: 1, Zones: []api.Zone{z(1, "", "", 8, 1)}},
		"ID 0":             mapOf(z(0, "", "", 8, 1)),
		"ID 50":            mapOf(z(50, "", "", 8, 1)),
		"an ID twice":      mapOf(a, z(1, "m", "", 8, 1)),
		"a hole":           mapOf(a, z(2, "n", "", 8, 1)),
		"out of order":     mapOf(b, a),
		"not to the end":   mapOf(a),
		"Owner 0":          mapOf(z(1, "", "", 0, 1)),
		"Owner":            mapOf(z(1, "", "", 1<<20+1, 1)),
		"Epoch 0":          mapOf(z(1, "", "", 8, 0)),
		"Epoch":            mapOf(z(1, "", "", 8, top+1)),
		"Pend 4":           mapOf(pend(z(1, "", "", 8, 1), 4, 0, "", 0)),
		"Pend below 0":     mapOf(pend(z(1, "", "", 8, 1), -1, 0, "", 0)),
		"Pend Done":        mapOf(pend(z(1, "", "", 8, 1), api.DirDone, 0, "", 0)),
		"none, To":         mapOf(pend(z(1, "", "", 8, 1), 0, 9, "", 0)),
		"none, Key":        mapOf(pend(z(1, "", "", 8, 1), 0, 0, "k", 0)),
		"none, New":        mapOf(pend(z(1, "", "", 8, 1), 0, 0, "", 3)),
		"move, To 0":       mapOf(pend(z(1, "", "", 8, 1), api.DirMove, 0, "", 0)),
		"move, To":         mapOf(pend(z(1, "", "", 8, 1), api.DirMove, 1<<20+1, "", 0)),
		"move to Owner":    mapOf(pend(z(1, "", "", 8, 1), api.DirMove, 8, "", 0)),
		"move, Key":        mapOf(pend(z(1, "", "", 8, 1), api.DirMove, 9, "k", 0)),
		"move, New":        mapOf(pend(z(1, "", "", 8, 1), api.DirMove, 9, "", 3)),
		"split, no Key":    mapOf(pend(z(1, "", "", 8, 1), api.DirSplit, 0, "", 3)),
		"split, long Key":  mapOf(pend(z(1, "", "", 8, 1), api.DirSplit, 0, long, 3)),
		"split at From":    mapOf(a, pend(b, api.DirSplit, 0, "m", 3)),
		"split elsewhere":  mapOf(pend(a, api.DirSplit, 0, "n", 3), b),
		"split, To":        mapOf(pend(z(1, "", "", 8, 1), api.DirSplit, 9, "k", 3)),
		"split, New 0":     mapOf(pend(z(1, "", "", 8, 1), api.DirSplit, 0, "k", 0)),
		"split, New 50":    mapOf(pend(z(1, "", "", 8, 1), api.DirSplit, 0, "k", 50)),
		"split, own ID":    mapOf(pend(z(1, "", "", 8, 1), api.DirSplit, 0, "k", 1)),
		"split, an ID":     mapOf(pend(a, api.DirSplit, 0, "k", 2), b),
		"splits, one New":  mapOf(pend(a, api.DirSplit, 0, "k", 3), pend(b, api.DirSplit, 0, "q", 3)),
		"merge alone":      mapOf(pend(z(1, "", "", 8, 1), api.DirMerge, 0, "", 2)),
		"merge of one":     mapOf(pend(a, api.DirMerge, 0, "", 2), b),
		"merge, To":        mapOf(pend(a, api.DirMerge, 9, "", 2), pend(b, api.DirMerge, 0, "", 1)),
		"merge, Key":       mapOf(pend(a, api.DirMerge, 0, "", 2), pend(b, api.DirMerge, 0, "q", 1)),
		"merge, Owners":    mapOf(pend(a, api.DirMerge, 0, "", 2), pend(z(2, "m", "", 9, 1), api.DirMerge, 0, "", 1)),
		"merge, not back":  mapOf(pend(a, api.DirMerge, 0, "", 2), pend(b, api.DirMerge, 0, "", 3)),
		"merge, itself":    mapOf(pend(a, api.DirMerge, 0, "", 1), pend(b, api.DirMerge, 0, "", 2)),
		"merge, far apart": mapOf(pend(z(1, "", "b", 8, 1), api.DirMerge, 0, "", 3), z(2, "b", "c", 8, 1), pend(z(3, "c", "", 8, 1), api.DirMerge, 0, "", 1)),
		"merge, a third":   mapOf(pend(z(1, "", "b", 8, 1), api.DirMerge, 0, "", 2), pend(z(2, "b", "c", 8, 1), api.DirMerge, 0, "", 1), pend(z(3, "c", "", 8, 1), api.DirMerge, 0, "", 2)),
	}
	m["17 zones"] = many(17)
	return m
}

// many is a map of so many zones.
func many(n int) api.Map {
	m := mapOf()
	from := ""
	for i := range n {
		to := string(rune('a' + i))
		if i == n-1 {
			to = ""
		}
		m.Zones = append(m.Zones, z(i+1, from, to, 8, 1))
		from = to
	}
	return m
}

// right is maps that may be.
func right() map[string]api.Map {
	return map[string]api.Map{
		"one":       mapOf(z(49, "", "", 8, 1)),
		"the least": {Version: 1, Next: 2, Zones: []api.Zone{z(1, "", "", 8, 1)}},
		"bounds":    {Version: top, Next: top, Zones: []api.Zone{z(top-1, "", "", 8, top)}},
		"16":        many(16),
		"all sorts": mapOf(
			pend(z(7, "", "b", 8, 1), api.DirMove, 9, "", 0),
			pend(z(3, "b", "d", 8, 4), api.DirSplit, 0, "c", 49),
			pend(z(4, "d", "e", 9, 4), api.DirMerge, 0, "", 5), pend(z(5, "e", "f", 9, 6), api.DirMerge, 0, "", 4),
			pend(z(8, "f", "g", 9, 4), api.DirMerge, 0, "", 9), pend(z(9, "g", "h", 9, 6), api.DirMerge, 0, "", 8),
			pend(z(1, "h", "", 9, 4), api.DirSplit, 0, "z", 48)),
	}
}

func TestOf(t *testing.T) {
	for name, m := range wrong() {
		if d, err := dir.Of(m, 8, 9); err != api.ErrForm || d != nil {
			t.Error(name, err)
		}
	}
	for name, m := range right() {
		if !reflect.DeepEqual(of(t, m, 8, 9).Map(), m) {
			t.Error(name)
		}
	}
	for name, m := range map[string]api.Map{
		"an Owner that is no host": mapOf(z(1, "", "", 10, 1)),
		"a To that is no host":     mapOf(pend(z(1, "", "", 8, 1), api.DirMove, 10, "", 0)),
	} {
		if d, err := dir.Of(m, 8, 9); err != api.ErrForm || d != nil {
			t.Error(name, err)
		}
		of(t, m, 8, 9, 10)
	}
}

// P16.2
func TestChangesThatMayNotBe(t *testing.T) {
	for name, c := range changes() {
		d := made(t, 8, 9)
		if !c.may {
			applies(t, d, c.c, false)
			holds(t, d, 1, 2, z(1, "", "", 8, 1))
		}
		b, err := dir.EncodeChange(c.c)
		var w octet.Writer
		w.Nums(c.c.Kind, c.c.Zone, c.c.Epoch, c.c.To)
		w.Bytes([]byte(c.c.Key))
		if c.may && (err != api.OK || !bytes.Equal(b, w.Out())) || !c.may && (err != api.ErrArg || len(b) != 0) {
			t.Error(name, b, err)
		}
		if min(c.c.Kind, c.c.Zone, c.c.Epoch, c.c.To) < 0 {
			continue
		}
		back, err := dir.DecodeChange(w.Out())
		if c.may && (err != api.OK || back != c.c) || !c.may && (err != api.ErrForm || back != api.Change{}) {
			t.Error(name, back, err)
		}
	}
	good, _ := dir.EncodeChange(done(1, 2))
	for name, b := range map[string][]byte{"nothing": nil, "less": good[:3], "more": append(bytes.Clone(good), 0), "a long number": append([]byte{0x84, 0}, good[1:]...)} {
		if c, err := dir.DecodeChange(b); err != api.ErrForm || c != (api.Change{}) {
			t.Error(name, c, err)
		}
	}
}

// changes is changes, and whether they may be.
func changes() map[string]struct {
	c   api.Change
	may bool
} {
	type row = struct {
		c   api.Change
		may bool
	}
	m := map[string]row{"nothing": {}}
	for kind, good := range map[int]api.Change{api.DirSplit: split(1, "m"), api.DirMerge: merge(1), api.DirMove: move(1, 9), api.DirDone: done(1, 1), api.DirAbort: abort(1, 1)} {
		add := func(name string, may bool, f func(c *api.Change)) {
			c := good
			f(&c)
			m[fmt.Sprint(kind, " ", name)] = row{c, may}
		}
		ends := kind == api.DirDone || kind == api.DirAbort
		add("good", true, func(c *api.Change) {})
		for _, n := range []int{math.MinInt, -1, 0, top + 1, math.MaxInt} {
			add(fmt.Sprint("Zone ", n), false, func(c *api.Change) { c.Zone = n })
			add(fmt.Sprint("Epoch ", n), n == 0 && !ends, func(c *api.Change) { c.Epoch = n })
			add(fmt.Sprint("To ", n), n == 0 && kind != api.DirMove, func(c *api.Change) { c.To = n })
		}
		add("a great Zone", true, func(c *api.Change) { c.Zone = top })
		add("a great Epoch", ends, func(c *api.Change) { c.Epoch = top })
		add("To 1", kind == api.DirMove, func(c *api.Change) { c.To = 1 })
		add("a great To", kind == api.DirMove, func(c *api.Change) { c.To = 1 << 20 })
		add("a greater To", false, func(c *api.Change) { c.To = 1<<20 + 1 })
		add("no Key", kind != api.DirSplit, func(c *api.Change) { c.Key = "" })
		add("a Key", kind == api.DirSplit, func(c *api.Change) { c.Key = strings.Repeat("\xff", 16) })
		add("a long Key", false, func(c *api.Change) { c.Key = strings.Repeat("k", 17) })
	}
	for _, kind := range []int{-1, 6, math.MinInt, math.MaxInt} {
		c := merge(1)
		c.Kind = kind
		m[fmt.Sprint("kind ", kind)] = row{c, false}
	}
	return m
}

func TestSplit(t *testing.T) {
	d := made(t, 8)
	applies(t, d, split(2, "m"), false)
	applies(t, d, split(1, "m"), true)
	holds(t, d, 2, 3, pend(z(1, "", "", 8, 1), api.DirSplit, 0, "m", 2))
	applies(t, d, split(1, "n"), false)
	applies(t, d, split(2, "q"), false)
	applies(t, d, done(1, 2), false)
	applies(t, d, done(2, 1), false)
	applies(t, d, done(1, 1), true)
	holds(t, d, 3, 3, z(1, "", "m", 8, 2), z(2, "m", "", 8, 2))
	applies(t, d, done(1, 1), false)
	applies(t, d, done(1, 2), false)
	applies(t, d, split(1, "m"), false)
	applies(t, d, split(1, "z"), false)
	applies(t, d, split(2, "m"), false)
	applies(t, d, split(1, "b"), true)
	applies(t, d, split(2, "q"), true)
	applies(t, d, done(2, 2), true)
	applies(t, d, done(1, 2), true)
	holds(t, d, 7, 5, z(1, "", "b", 8, 3), z(3, "b", "m", 8, 3), z(2, "m", "q", 8, 3), z(4, "q", "", 8, 3))
}

func TestMaxZones(t *testing.T) {
	d := of(t, many(14), 8)
	applies(t, d, split(1, "A"), true)
	applies(t, d, split(2, "aa"), true)
	applies(t, d, split(3, "bb"), false)
	applies(t, d, done(1, 1), true)
	applies(t, d, split(3, "bb"), false)
	applies(t, d, merge(5), true)
	applies(t, d, done(5, 1), true)
	applies(t, d, split(3, "bb"), true)
	applies(t, d, split(4, "cc"), false)
}

func TestMerge(t *testing.T) {
	d := of(t, mapOf(z(3, "", "b", 8, 2), z(1, "b", "d", 8, 7), z(2, "d", "f", 9, 4), z(4, "f", "", 9, 4)), 8, 9)
	applies(t, d, merge(4), false) // no zone behind
	applies(t, d, merge(1), false) // unlike Owners
	applies(t, d, merge(9), false)
	applies(t, d, merge(3), true)
	holds(t, d, 6, 50, pend(z(3, "", "b", 8, 2), api.DirMerge, 0, "", 1), pend(z(1, "b", "d", 8, 7), api.DirMerge, 0, "", 3), z(2, "d", "f", 9, 4), z(4, "f", "", 9, 4))
	applies(t, d, merge(3), false)
	applies(t, d, move(1, 9), false)
	applies(t, d, split(3, "a"), false)
	applies(t, d, done(1, 7), false) // the one that stands behind
	applies(t, d, done(3, 7), false)
	applies(t, d, abort(3, 2), false)
	applies(t, d, done(3, 2), true)
	holds(t, d, 7, 50, z(3, "", "d", 8, 8), z(2, "d", "f", 9, 4), z(4, "f", "", 9, 4))
	applies(t, d, split(4, "x"), true)
	applies(t, d, merge(2), false) // the second one has a Pend
	applies(t, d, done(4, 4), true)
	applies(t, d, merge(2), true)
	applies(t, d, done(2, 4), true)
	holds(t, d, 11, 51, z(3, "", "d", 8, 8), z(2, "d", "x", 9, 6), z(50, "x", "", 9, 5))
}

func TestMergeOfAll(t *testing.T) {
	d := of(t, mapOf(z(1, "", "m", 8, 1), z(2, "m", "", 8, 1)), 8)
	applies(t, d, merge(1), true)
	applies(t, d, done(1, 1), true)
	holds(t, d, 7, 50, z(1, "", "", 8, 2))
}

func TestMove(t *testing.T) {
	d := of(t, mapOf(z(1, "", "b", 8, 1), z(2, "b", "d", 9, 1), z(3, "d", "", 8, 1)), 8, 9)
	for _, to := range []int{8, 10, 7, 1} {
		applies(t, d, move(1, to), false)
	}
	applies(t, d, move(4, 9), false)
	applies(t, d, move(1, 9), true)
	holds(t, d, 6, 50, pend(z(1, "", "b", 8, 1), api.DirMove, 9, "", 0), z(2, "b", "d", 9, 1), z(3, "d", "", 8, 1))
	applies(t, d, move(1, 9), false)
	applies(t, d, split(1, "a"), false)
	applies(t, d, merge(1), false)
	applies(t, d, move(2, 8), true)
	applies(t, d, move(3, 9), false) // MaxMoves
	applies(t, d, done(1, 1), true)
	holds(t, d, 8, 50, z(1, "", "b", 9, 2), pend(z(2, "b", "d", 9, 1), api.DirMove, 8, "", 0), z(3, "d", "", 8, 1))
	applies(t, d, done(1, 2), false)
	applies(t, d, move(3, 9), true)
	applies(t, d, abort(2, 2), false)
	applies(t, d, abort(1, 2), false)
	applies(t, d, abort(5, 1), false)
	applies(t, d, abort(2, 1), true)
	applies(t, d, abort(2, 1), false)
	applies(t, d, done(2, 1), false)
	holds(t, d, 10, 50, z(1, "", "b", 9, 2), z(2, "b", "d", 9, 2), pend(z(3, "d", "", 8, 1), api.DirMove, 9, "", 0))
	applies(t, d, split(2, "c"), true)
	applies(t, d, abort(2, 2), false) // a split is not aborted
}

func TestWhatWouldGoAboveTheBound(t *testing.T) {
	one := z(1, "", "", 8, 1)
	last := z(1, "", "", 8, top)
	d := of(t, api.Map{Version: top, Next: 2, Zones: []api.Zone{one}}, 8, 9)
	applies(t, d, split(1, "m"), false)
	applies(t, d, move(1, 9), false)
	d = of(t, api.Map{Version: 1, Next: top, Zones: []api.Zone{one}}, 8, 9)
	applies(t, d, split(1, "m"), false)
	applies(t, d, move(1, 9), true)
	for name, zones := range map[string][]api.Zone{
		"split": {pend(last, api.DirSplit, 0, "m", 2)},
		"move":  {pend(last, api.DirMove, 9, "", 0)},
		"merge": {pend(z(1, "", "m", 8, top), api.DirMerge, 0, "", 2), pend(z(2, "m", "", 8, 1), api.DirMerge, 0, "", 1)},
	} {
		d = of(t, mapOf(zones...), 8, 9)
		applies(t, d, done(1, top), false)
		applies(t, d, abort(1, top), false)
		holds(t, d, 5, 50, zones...)
		_ = name
	}
	d = of(t, mapOf(pend(z(1, "", "m", 8, 1), api.DirMerge, 0, "", 2), pend(z(2, "m", "", 8, top), api.DirMerge, 0, "", 1)), 8)
	applies(t, d, done(1, 1), false)
	d = of(t, mapOf(pend(z(1, "", "", 8, top-1), api.DirMove, 9, "", 0)), 8, 9)
	applies(t, d, done(1, top-1), true)
	d = of(t, api.Map{Version: top - 1, Next: top - 1, Zones: []api.Zone{one}}, 8)
	applies(t, d, split(1, "m"), true)
	holds(t, d, top, top, pend(one, api.DirSplit, 0, "m", top-1))
}

// P16.3
func TestFind(t *testing.T) {
	a, b := z(1, "", "m", 8, 1), pend(z(2, "m", "", 9, 3), api.DirMove, 8, "", 0)
	d := of(t, mapOf(a, b), 8, 9)
	for key, want := range map[string]api.Zone{"a": a, "lz": a, "m": b, "\xff": b, strings.Repeat("z", 16): b} {
		if got, ok := d.Find(key); !ok || got != want {
			t.Error(key, got, ok)
		}
	}
	for _, key := range []string{"", strings.Repeat("z", 17)} {
		if got, ok := d.Find(key); ok || got != (api.Zone{}) {
			t.Error(key, got, ok)
		}
	}
}

// P16.4
func raw(m api.Map) []byte {
	var w octet.Writer
	w.Nums(m.Version, m.Next, len(m.Zones))
	for _, z := range m.Zones {
		w.Nums(z.ID)
		w.Bytes([]byte(z.Span.From), []byte(z.Span.To))
		w.Nums(z.Owner, z.Epoch, z.Pend, z.To)
		w.Bytes([]byte(z.Key))
		w.Nums(z.New)
	}
	return w.Out()
}

func TestOwnersThatAreNoHosts(t *testing.T) {
	for _, m := range []api.Map{mapOf(z(1, "", "", 1, 1)), mapOf(z(1, "", "", 1<<20, 1)), mapOf(pend(z(1, "", "", 8, 1), api.DirMove, 1, "", 0)), mapOf(pend(z(1, "", "", 8, 1), api.DirMove, 1<<20, "", 0))} {
		if got, err := dir.Decode(raw(m)); err != api.OK || !reflect.DeepEqual(got, m) {
			t.Error(m, err)
		}
	}
}

func TestMapsAsBytes(t *testing.T) {
	for name, m := range right() {
		b := dir.Encode(m)
		if !bytes.Equal(b, raw(m)) {
			t.Errorf("%s: % x", name, b)
		}
		if got, err := dir.Decode(b); err != api.OK || !reflect.DeepEqual(got, m) {
			t.Error(name, got, err)
		}
	}
	for name, m := range wrong() {
		if b := dir.Encode(m); !bytes.Equal(b, raw(m)) {
			t.Errorf("%s: % x", name, b)
		}
		if strings.Contains(name, "below 0") {
			continue
		}
		if got, err := dir.Decode(raw(m)); err != api.ErrForm || !reflect.DeepEqual(got, api.Map{}) {
			t.Error(name, got, err)
		}
	}
	if b := dir.Encode(api.Map{Version: -3, Next: 2, Zones: []api.Zone{{ID: 1, Owner: -8, Epoch: 1}}}); !bytes.Equal(b, []byte{0, 2, 1, 1, 0, 0, 0, 1, 0, 0, 0, 0}) {
		t.Errorf("% x", b)
	}
	good := raw(right()["one"])
	for name, b := range map[string][]byte{"nothing": nil, "less": good[:len(good)-1], "more": append(bytes.Clone(good), 0), "a long number": append([]byte{0x85, 0}, good[1:]...), "very many": {1, 2, 0xff, 0xff, 0xff, 0xff, 0xff, 0xff, 0x3f}} {
		if got, err := dir.Decode(b); err != api.ErrForm || !reflect.DeepEqual(got, api.Map{}) {
			t.Error(name, got, err)
		}
	}
}

// P16.5
func TestEachKeyJustOnce(t *testing.T) {
	draw := rand.New(rand.NewSource(11))
	for range 60 {
		d := made(t, 8, 9, 10)
		ended := map[[2]int]bool{} // of which zone and Epoch something was done
		for range 300 {
			m := d.Map()
			at := m.Zones[draw.Intn(len(m.Zones))]
			c := api.Change{Kind: 1 + draw.Intn(5), Zone: at.ID}
			switch c.Kind {
			case api.DirSplit:
				c.Key = string(rune('a'+draw.Intn(26))) + string(rune('a'+draw.Intn(26)))
			case api.DirMove:
				c.To = 8 + draw.Intn(3)
			case api.DirDone, api.DirAbort:
				c.Epoch = max(1, at.Epoch-draw.Intn(2))
			}
			would := d.Would(c)
			if ok := d.Apply(c); ok != would {
				t.Fatal(c, ok, would)
			} else if ok && c.Epoch > 0 {
				if ended[[2]int{c.Zone, c.Epoch}] {
					t.Fatal("twice of one Epoch:", c)
				}
				ended[[2]int{c.Zone, c.Epoch}] = true
			}
			var spans []api.Span
			for _, z := range d.Map().Zones {
				spans = append(spans, z.Span)
			}
			if !span.All(spans...) {
				t.Fatal(spans)
			}
			if _, err := dir.Of(d.Map(), 8, 9, 10); err != api.OK {
				t.Fatal("the map may not be:", d.Map())
			}
		}
	}
}

func TestNewMemory(t *testing.T) {
	hosts := append(make([]int, 0, 4), 8, 9)
	m := mapOf(z(1, "", "m", 8, 1), z(2, "m", "", 8, 1))
	d := of(t, m, hosts...)
	e := made(t, hosts...)
	hosts[1] = 10
	m.Zones[0].Owner = 9
	applies(t, d, move(1, 9), true)
	applies(t, e, move(1, 9), true)
	got := d.Map()
	got.Zones[0].Epoch = 77
	_ = append(got.Zones[:1], z(9, "", "", 1, 1))
	kept := d.Map()
	applies(t, d, done(1, 1), true)
	if kept.Zones[0].Owner != 8 || hosts[:3][2] != 0 {
		t.Error("an answer changed")
	}
	holds(t, d, 7, 50, z(1, "", "m", 9, 2), z(2, "m", "", 8, 1))
}

func TestNilDir(t *testing.T) {
	var d *dir.Dir
	if d.Would(merge(1)) || d.Apply(split(1, "m")) || !reflect.DeepEqual(d.Map(), api.Map{}) {
		t.Error("a nil Dir")
	}
	if got, ok := d.Find("a"); ok || got != (api.Zone{}) {
		t.Error(got, ok)
	}
}
