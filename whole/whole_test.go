// Package whole_test holds the promises of the whole (P0.1 to P0.5) against worlds of many steps.
package whole_test

import (
	"bytes"
	"fmt"
	"math/rand"
	"reflect"
	"slices"
	"testing"

	"satrapy/api"
	"satrapy/econ"
	"satrapy/gate"
	"satrapy/judge"
	"satrapy/octet"
	"satrapy/span"
	"satrapy/world"
	"satrapy/zone"
)

// run is a world, and what is drawn to happen in it.
type run struct {
	t      *testing.T
	draw   *rand.Rand
	config world.Config
	w      *world.World
	steps  []world.Step
	errs   []api.Errno
	served map[[2]int]int // by zones and Epochs: who was Serving
	wild   bool           // what goes wrong goes wrong
}

func begin(t *testing.T, seed int64, c world.Config) *run {
	t.Helper()
	w, err := world.New(c)
	if err != api.OK {
		t.Fatal("New:", err)
	}
	return &run{t: t, draw: rand.New(rand.NewSource(seed)), config: c, w: w, served: map[[2]int]int{}, wild: true}
}

func (r *run) do(s world.Step) {
	r.steps = append(r.steps, s)
	r.errs = append(r.errs, r.w.Do(s))
	r.oneOwner()
}

// seats, hosts, gates: a node drawn.
func (r *run) seat() int { return r.draw.Intn(r.config.Seats) }
func (r *run) host() int { return api.FirstHost + r.draw.Intn(r.config.Hosts) }
func (r *run) gate() int { return api.FirstGate + r.draw.Intn(r.config.Gates) }

// withDisk is a seat or a host.
func (r *run) withDisk() int {
	if r.draw.Intn(3) == 0 {
		return r.seat()
	}
	return r.host()
}

func (r *run) key() string {
	return string(rune('a'+r.draw.Intn(13))) + string(rune('a'+r.draw.Intn(2)))
}

func (r *run) place() api.Place {
	return api.Place{Key: r.key(), Who: string(rune('x' + r.draw.Intn(2)))}
}

// request is a request drawn; most find something to do.
func (r *run) request() api.Op {
	o := api.Op{Kind: api.OpMint, At: r.place()}
	switch k := r.draw.Intn(20); {
	case k < 7:
		o.Item, o.Count = r.draw.Intn(9)/2%4, 1+r.draw.Intn(60)
	case k < 12:
		o.Kind, o.To, o.Item, o.Count = api.OpSend, r.place(), r.draw.Intn(2), 1+r.draw.Intn(20)
	case k < 16:
		o.Kind, o.Item, o.Count, o.Price, o.Buy = api.OpOrder, 1+r.draw.Intn(3), 1+r.draw.Intn(5), 1+r.draw.Intn(5), r.draw.Intn(2) == 0
	case k < 17:
		o.Kind, o.ID = api.OpCancel, 1+r.draw.Intn(4)
	default:
		o.Kind = api.OpLook
	}
	return o
}

// change is a change drawn.
func (r *run) change() api.Change {
	zones := r.w.Map().Zones
	if len(zones) == 0 {
		return api.Change{}
	}
	z := zones[r.draw.Intn(len(zones))]
	switch k := r.draw.Intn(10); {
	case k < 3:
		return api.Change{Kind: api.DirSplit, Zone: z.ID, Key: r.key()}
	case k < 5:
		return api.Change{Kind: api.DirMerge, Zone: z.ID}
	case k < 9 || !r.tookOver(z):
		return api.Change{Kind: api.DirMove, Zone: z.ID, To: r.host()}
	}
	return api.Change{Kind: api.DirAbort, Zone: z.ID, Epoch: z.Epoch}
}

// tookOver tells whether the Owner of a zone has it by now as its own. By P24.4 it would Drop a zone that
// is still Coming, if the Epoch rose by an abort ahead of its hearing that the zone is its own.
func (r *run) tookOver(z api.Zone) bool {
	return slices.ContainsFunc(r.w.Host(z.Owner).Zones(), func(h zone.Head) bool { return h.ID == z.ID && h.State != api.Coming })
}

// next is the next step, drawn.
func (r *run) next() world.Step {
	near := r.draw.Intn(12)
	switch k := r.draw.Intn(1000); {
	case k < 420:
		return world.Step{Kind: world.StepGive, Pick: near, N: r.draw.Intn(40)}
	case k < 520:
		return world.Step{Kind: world.StepTick, Node: r.seat(), N: r.draw.Intn(40)}
	case k < 660:
		return world.Step{Kind: world.StepTick, Node: r.host()}
	case k < 720:
		return world.Step{Kind: world.StepTick, Node: r.gate()}
	case k < 800:
		return world.Step{Kind: world.StepSubmit, Node: r.gate(), Op: r.request()}
	case k < 822:
		return world.Step{Kind: world.StepChange, Change: r.change()}
	case k < 826:
		return world.Step{Kind: world.StepPlan, N: r.draw.Intn(20), Draw: r.draw.Intn(8)}
	case k < 857:
		return world.Step{Kind: world.StepRest, N: r.draw.Intn(7), Draw: r.draw.Intn(99)}
	case !r.wild:
		return world.Step{Kind: world.StepGive, Pick: 0}
	case k < 885:
		return world.Step{Kind: world.StepLose, Pick: near}
	case k < 910:
		return world.Step{Kind: world.StepTwice, Pick: near}
	case k < 940:
		return world.Step{Kind: world.StepLate, Pick: near}
	case k < 955:
		return world.Step{Kind: world.StepSpoil, Pick: near, N: r.draw.Intn(200), Draw: r.draw.Intn(256)}
	case k < 958:
		return world.Step{Kind: world.StepFuse, Node: r.withDisk(), N: r.draw.Intn(9)}
	case k < 961:
		return world.Step{Kind: world.StepCrash, Node: r.withDisk(), Draw: r.draw.Intn(999)}
	}
	return world.Step{Kind: world.StepOpen, Node: r.withDisk(), Draw: r.draw.Intn(40)}
}

// P0.2

// oneOwner: no two hosts serve one key, the zones have each key just once, and of an Epoch of a zone one
// host alone is ever Serving.
func (r *run) oneOwner() {
	for c := 'a'; c <= 'm'; c++ {
		for _, key := range []string{string(c) + "a", string(c) + "b"} {
			if l := r.w.Serving(key); len(l) > 1 {
				r.t.Fatalf("step %d: %s is served by %v", len(r.steps), key, l)
			}
		}
	}
	for i := range r.config.Hosts {
		node := api.FirstHost + i
		for _, h := range r.w.Host(node).Zones() {
			k := [2]int{h.ID, h.Epoch}
			if h.State != api.Serving {
				continue
			}
			if who, ok := r.served[k]; ok && who != node {
				r.t.Fatalf("step %d: zone %v is Serving at %d, and was at %d", len(r.steps), h, node, who)
			}
			r.served[k] = node
		}
	}
	var spans []api.Span
	for _, z := range r.w.Map().Zones {
		spans = append(spans, z.Span)
	}
	if len(spans) > 0 && !span.All(spans...) {
		r.t.Fatal("the zones do not have each key just once:", spans)
	}
}

// oneRow: of each zone what was done is one row: numbers rise one by one.
func (r *run) oneRow() {
	last := map[int]int{}
	for _, e := range r.w.Events() {
		if n, ok := last[e.Zone]; ok && e.Index <= n {
			r.t.Fatalf("zone %d: number %d behind %d", e.Zone, e.Index, n)
		}
		last[e.Zone] = e.Index
	}
}

// P0.1

func (r *run) answers() (l [][]gate.Answer) {
	for i := range r.config.Gates {
		l = append(l, r.w.Gate(api.FirstGate+i).Answers())
	}
	return l
}

// oneOrder: what was done was done once, and each answer is what one plain economy says.
func (r *run) oneOrder() {
	events := r.w.Events()
	if at := judge.Twice(events); at >= 0 {
		r.t.Fatalf("step %d: event %d was done already: %v", len(r.steps), at, events[at])
	}
	if at := judge.Wrong(events, r.answers()...); at >= 0 {
		r.t.Fatalf("step %d: answer %d is wrong: %v", len(r.steps), at, slices.Concat(r.answers()...)[at])
	}
}

// P0.4

// calm: no disk errs any more, all are up, and what is sent comes: all that is under way ends.
func (r *run) calm() {
	for _, node := range r.nodes() {
		r.do(world.Step{Kind: world.StepFuse, Node: node, N: -1})
		if !r.w.Up(node) {
			r.do(world.Step{Kind: world.StepOpen, Node: node})
		}
		if !r.w.Up(node) {
			r.t.Fatal(node, "does not open:", r.errs[len(r.errs)-1])
		}
	}
	for range 60 {
		r.do(world.Step{Kind: world.StepRest, N: 20})
		if r.open() == "" {
			r.do(world.Step{Kind: world.StepRest, N: 12})
			return
		}
	}
	r.t.Fatalf("step %d: it does not end: %s", len(r.steps), r.open())
}

// open tells something that is still under way.
func (r *run) open() string {
	for _, z := range r.w.Map().Zones {
		if z.Pend != 0 {
			return fmt.Sprint("zone ", z)
		}
		if l := r.w.Serving(inside(z)); !slices.Equal(l, []int{z.Owner}) {
			return fmt.Sprint("zone ", z, " is served by ", l)
		}
	}
	for i := range r.config.Gates {
		if o, ok := r.w.Gate(api.FirstGate + i).Pending(); ok {
			return fmt.Sprint("request ", o)
		}
	}
	for _, e := range r.econs() {
		if l := e.Transits(); len(l) > 0 {
			return fmt.Sprint("under way: ", l[0])
		}
	}
	return ""
}

// inside is a key of a zone.
func inside(z api.Zone) string {
	if z.Span.From == "" {
		return "\x00"
	}
	return z.Span.From
}

func (r *run) nodes() (l []int) {
	for i := range r.config.Seats {
		l = append(l, i)
	}
	for i := range r.config.Hosts {
		l = append(l, api.FirstHost+i)
	}
	return l
}

// econs is the economies of all zones, each at its Owner.
func (r *run) econs() (l []*econ.Econ) {
	for _, z := range r.w.Map().Zones {
		l = append(l, r.w.Host(z.Owner).Econ(z.ID))
	}
	return l
}

// P0.3

// nothingLost: what hosts have is what all that was done comes to, vault by vault.
func (r *run) nothingLost() {
	events := r.w.Events()
	replies, e := judge.Order(events)
	there := map[string]string{}
	for _, part := range r.econs() {
		for key, v := range vaults(r.t, part) {
			if _, twice := there[key]; twice {
				r.t.Errorf("%q is there twice", key)
			}
			there[key] = v
		}
	}
	if want := vaults(r.t, e); !reflect.DeepEqual(there, want) {
		for key := range want {
			if there[key] != want[key] {
				r.t.Errorf("%q: % x, not % x", key, there[key], want[key])
			}
		}
		r.t.Fatalf("hosts have %d keys, not %d", len(there), len(want))
	}
	if !judge.Parts(r.w.Map(), r.econs()...) {
		r.t.Error("a key is out of its zone")
	}
	for i := range r.config.Hosts {
		for _, h := range r.w.Host(api.FirstHost + i).Zones() {
			if !slices.ContainsFunc(r.w.Map().Zones, func(z api.Zone) bool {
				return z.ID == h.ID && z.Owner == api.FirstHost+i && z.Epoch == h.Epoch && z.Span == h.Span && h.State == api.Serving
			}) {
				r.t.Errorf("host %d has a zone that it should not: %v", api.FirstHost+i, h)
			}
		}
	}
	var minted api.Items
	for i, event := range events {
		if event.Op.Kind == api.OpMint && replies[i].Err == api.OK {
			minted[event.Op.Item] += event.Op.Count
		}
	}
	if total, ok := judge.Total(e, r.econs()...); !ok || total != minted {
		r.t.Errorf("in all %v, not %v", total, minted)
	}
}

// vaults is an economy's vaults as bytes, by keys.
func vaults(t *testing.T, e *econ.Econ) map[string]string {
	t.Helper()
	m := map[string]string{}
	row := octet.NewReader(e.Encode())
	for range row.Num() {
		key := string(row.Bytes())
		m[key] = string(row.Bytes())
	}
	if !row.Good() {
		t.Fatal("no economy")
	}
	return m
}

// all of it, for some seeds
func many(t *testing.T, seeds, steps int, c world.Config) {
	t.Helper()
	events, answers, zones, served := 0, 0, 0, 0
	for seed := range seeds {
		r := begin(t, int64(seed), c)
		for part := range 4 {
			r.wild = part != 3
			for range steps / 4 {
				r.do(r.next())
			}
			r.oneOrder()
		}
		r.calm()
		r.oneOrder()
		r.oneRow()
		r.nothingLost()
		if t.Failed() {
			t.Fatal("seed", seed)
		}
		events, zones, served = events+len(r.w.Events()), zones+r.w.Map().Next, served+len(r.served)
		for _, l := range r.answers() {
			answers += len(l)
		}
	}
	t.Logf("%d events, %d answers, %d zones, %d Epochs of zones", events, answers, zones, served)
	if answers < 15*seeds || zones < 3*seeds || served < 5*seeds {
		t.Error("too little was done")
	}
}

func TestAWildWorld(t *testing.T) {
	many(t, 20, 4000, world.Config{Seats: 3, Hosts: 3, Gates: 3, Room: 1 << 20})
}

func TestAWideWorld(t *testing.T) {
	many(t, 6, 4000, world.Config{Seats: 3, Hosts: 6, Gates: 4, Room: 1 << 18})
}

func TestASmallWorld(t *testing.T) {
	many(t, 12, 3000, world.Config{Seats: 1, Hosts: 2, Gates: 1, Room: 1 << 18})
}

// P0.5
func TestTwins(t *testing.T) {
	for seed := range 5 {
		r := begin(t, int64(100+seed), world.Config{Seats: 3, Hosts: 4, Gates: 4, Room: 1 << 18})
		for range 2500 {
			r.do(r.next())
		}
		r.calm()
		twin, _ := world.New(r.config)
		if errs := twin.Run(r.steps...); !slices.Equal(errs, r.errs) {
			t.Fatal("their errors differ")
		}
		if !slices.Equal(twin.Events(), r.w.Events()) || !reflect.DeepEqual(twin.Map(), r.w.Map()) || twin.Len() != r.w.Len() {
			t.Fatal("twins differ")
		}
		for i, l := range r.answers() {
			if !slices.Equal(twin.Gate(api.FirstGate+i).Answers(), l) {
				t.Fatal("their answers differ")
			}
		}
		for _, node := range r.nodes() {
			a, b := twin.Disk(node), r.w.Disk(node)
			if !slices.Equal(a.List(), b.List()) {
				t.Fatal("their disks differ:", a.List(), b.List())
			}
			for _, name := range a.List() {
				x, _ := a.Read(name)
				y, _ := b.Read(name)
				if !bytes.Equal(x, y) {
					t.Fatal("their disks differ:", node, name)
				}
			}
		}
	}
}
