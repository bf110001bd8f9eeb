package host_test

import (
	"fmt"
	"math/rand"
	"slices"
	"testing"

	"satrapy/api"
	"satrapy/dir"
	"satrapy/disk"
	"satrapy/host"
	"satrapy/wire"
	"satrapy/zone"
)

// P24.6: three hosts by the maps of a directory, while messages are lost, doubled, late, and hosts crash.

type town struct {
	t      *testing.T
	draw   *rand.Rand
	dir    *dir.Dir
	disks  map[int]*disk.Disk
	hosts  map[int]*host.Host // nil: down
	flight []api.Msg
	loss   int               // of a hundred
	served map[[2]int]int    // by zone and Epoch: who was Serving
	rows   map[[2]int]api.Op // by zone and number: what was done
	seq    [4]int
	open   [4]api.Op // what is asked by now
	done   int
}

func newTown(t *testing.T, seed int64) *town {
	w := &town{t: t, draw: rand.New(rand.NewSource(seed)), disks: map[int]*disk.Disk{}, hosts: map[int]*host.Host{}, loss: 12, served: map[[2]int]int{}, rows: map[[2]int]api.Op{}}
	w.dir, _ = dir.New(8, 9, 10)
	for id := 8; id <= 10; id++ {
		w.disks[id] = fresh(t)
		w.up(id)
	}
	return w
}

func (w *town) up(id int) {
	h, err := host.Open(id, w.disks[id], 1)
	if err != api.OK {
		w.t.Fatal("Open", id, err)
	}
	w.hosts[id] = h
	w.look(id)
}

func (w *town) send(l []api.Msg) {
	for _, m := range l {
		if w.draw.Intn(100) >= w.loss {
			w.flight = append(w.flight, m)
		}
		if w.draw.Intn(100) < w.loss {
			w.flight = append(w.flight, m)
		}
	}
}

// look checks what a host says behind a call.
func (w *town) look(id int) {
	h := w.hosts[id]
	for _, e := range h.Events() {
		k := [2]int{e.Zone, e.Index}
		if was, ok := w.rows[k]; ok && was != e.Op {
			w.t.Fatal("two rows of one zone:", k, was, e.Op)
		}
		w.rows[k] = e.Op
	}
	if h.Dead() {
		w.disks[id].Crash(w.draw.Intn(99))
		delete(w.hosts, id)
	}
	keys := map[string]int{}
	for other := 8; other <= 10; other++ {
		h := w.hosts[other]
		if h == nil {
			continue
		}
		for _, z := range h.Zones() {
			k := [2]int{z.ID, z.Epoch}
			if z.State != api.Serving {
				continue
			}
			if who, ok := w.served[k]; ok && who != other {
				w.t.Fatalf("zone %d of Epoch %d is Serving at %d, and was at %d", z.ID, z.Epoch, other, who)
			}
			w.served[k] = other
		}
		for c := 'a'; c <= 'z'; c++ {
			if _, ok := h.Serves(string(c)); !ok {
				continue
			}
			if who, ok := keys[string(c)]; ok {
				w.t.Fatalf("%c is served by %d and by %d", c, who, other)
			}
			keys[string(c)] = other
		}
	}
}

// hear is what a seat does with a word, and a gate with an answer.
func (w *town) hear(m api.Msg) {
	x, err := wire.Decode(m.Data)
	if err != api.OK {
		w.t.Fatal(err)
	}
	switch {
	case m.To >= 32:
		g := m.To - 32
		if x.Err == api.OK && x.Op.Seq == w.open[g].Seq && w.open[g].Kind != 0 {
			w.open[g] = api.Op{}
			w.done++
		}
	case m.To >= 8:
		if h := w.hosts[m.To]; h != nil {
			w.send(h.Hear(m))
			w.look(m.To)
		}
	case x.Kind == wire.Pull:
		w.tell(m.From)
	case x.Kind == wire.Ask:
		for _, z := range w.dir.Map().Zones {
			if z.ID == x.Change.Zone && z.Owner == m.From {
				w.dir.Apply(x.Change)
				break
			}
		}
	}
}

func (w *town) tell(to int) {
	w.send([]api.Msg{msg(w.t, 0, to, wire.Word{Kind: wire.Tell, Map: w.dir.Map()})})
}

func (w *town) key() string { return string(rune('a' + w.draw.Intn(26))) }

func (w *town) change() {
	m := w.dir.Map()
	z := m.Zones[w.draw.Intn(len(m.Zones))]
	c := []api.Change{
		{Kind: api.DirSplit, Zone: z.ID, Key: w.key()}, {Kind: api.DirMerge, Zone: z.ID}, {Kind: api.DirMove, Zone: z.ID, To: 8 + w.draw.Intn(3)},
		{Kind: api.DirMove, Zone: z.ID, To: 8 + w.draw.Intn(3)}, {Kind: api.DirAbort, Zone: z.ID, Epoch: z.Epoch},
	}[w.draw.Intn(5)]
	if c.Kind == api.DirAbort && !w.knows(z) {
		return
	}
	w.dir.Apply(c)
}

// knows tells whether the Owner of a zone took it over by now. By P24.4 what is Coming, of a lesser Epoch
// than the map's, is Dropped: an abort of a second move, ahead of the Owner's hearing of the first one's
// end, would leave nobody with the zone.
func (w *town) knows(z api.Zone) bool {
	h := w.hosts[z.Owner]
	return h != nil && slices.ContainsFunc(h.Zones(), func(x zone.Head) bool { return x.ID == z.ID && x.State != api.Coming })
}

// ask lets a gate ask somebody, something new, if nothing is open.
func (w *town) ask(anew bool) {
	g := w.draw.Intn(4)
	if w.open[g].Kind == 0 {
		if !anew {
			return
		}
		w.seq[g]++
		w.open[g] = api.Op{Kind: api.OpMint, Client: g + 1, Seq: w.seq[g], At: at(w.key(), "x"), Count: 1 + w.draw.Intn(9)}
		if w.draw.Intn(2) == 0 {
			w.open[g].Kind, w.open[g].To = api.OpSend, at(w.key(), "x")
		}
	}
	w.send([]api.Msg{msg(w.t, 32+g, 8+w.draw.Intn(3), wire.Word{Kind: wire.Call, Op: w.open[g]})})
}

func (w *town) step() {
	if len(w.flight) > 0 && w.draw.Intn(5) > 1 {
		at := w.draw.Intn(min(len(w.flight), 10))
		m := w.flight[at]
		w.flight = slices.Delete(w.flight, at, at+1)
		w.hear(m)
		return
	}
	id := 8 + w.draw.Intn(3)
	h := w.hosts[id]
	k := w.draw.Intn(1000)
	switch {
	case h == nil:
		if k < 200 {
			w.up(id)
		}
	case k < 600:
		w.send(h.Tick())
		w.look(id)
	case k < 900:
		w.ask(true)
	case k < 970:
		w.change()
	case k < 980:
		w.disks[id].Crash(w.draw.Intn(99))
		delete(w.hosts, id)
	case k < 990:
		w.disks[id].Fuse(w.draw.Intn(8))
	}
}

// calm ends all that is under way, when nothing errs any more.
func (w *town) calm() {
	w.loss = 0
	for id := 8; id <= 10; id++ {
		w.disks[id].Fuse(-1)
		if w.hosts[id] == nil {
			w.up(id)
		}
	}
	for range 400 {
		for id := 8; id <= 10; id++ {
			w.send(w.hosts[id].Tick())
			w.look(id)
		}
		w.ask(false)
		for n := 0; len(w.flight) > 0 && n < 500; n++ {
			m := w.flight[0]
			w.flight = w.flight[1:]
			w.hear(m)
		}
		if len(w.flight) > 200 {
			w.flight = w.flight[:200]
		}
	}
	for _, z := range w.dir.Map().Zones {
		if z.Pend != 0 {
			w.t.Error("it does not end:", z)
		}
	}
	for c := 'a'; c <= 'z'; c++ {
		n := 0
		for id := 8; id <= 10; id++ {
			if _, ok := w.hosts[id].Serves(string(c)); ok {
				n++
			}
		}
		if n != 1 {
			w.t.Errorf("%c is served by %d", c, n)
		}
	}
	if w.open != [4]api.Op{} {
		w.t.Error("it was not answered:", w.open)
	}
	w.sums()
}

// sums: what hosts have is what all that was done comes to.
func (w *town) sums() {
	minted, held, under := 0, 0, 0
	seen := map[api.Op]bool{}
	for _, o := range w.rows {
		if o.Kind == api.OpMint && !seen[o] {
			minted += o.Count
		}
		if seen[o] && o.Kind == api.OpMint {
			w.t.Error("done twice:", o)
		}
		seen[o] = true
	}
	for id := 8; id <= 10; id++ {
		for _, z := range w.hosts[id].Zones() {
			e := w.hosts[id].Econ(z.ID)
			total, _ := e.Total()
			held += total[0]
			for _, tr := range e.Transits() {
				under += tr.Count
			}
		}
	}
	if minted != held || under != 0 {
		w.t.Errorf("minted %d, held %d, under way %d", minted, held, under)
	}
}

func TestNoTwoServeOneKey(t *testing.T) {
	done, served := 0, 0
	for seed := range 25 {
		w := newTown(t, int64(seed))
		for range 5000 {
			w.step()
		}
		w.calm()
		if t.Failed() {
			t.Fatal("seed", seed)
		}
		done, served = done+w.done, served+len(w.served)
	}
	if done < 1200 || served < 500 {
		t.Error(fmt.Sprint("too little was done: ", done, " ", served))
	}
}
