package raft_test

import (
	"bytes"
	"fmt"
	"math/rand"
	"testing"

	"satrapy/api"
	"satrapy/disk"
	"satrapy/octet"
	"satrapy/raft"
)

// P6.8: groups of nodes, of which messages are lost, doubled, late, nodes crash, and the group is changed.

const nodesInAll = 5

// world is nodes and what is known of what they said.
type world struct {
	t      *testing.T
	draw   *rand.Rand
	disks  [nodesInAll]*disk.Disk
	nodes  [nodesInAll]*raft.Node // nil: down
	at     [nodesInAll]int        // what was taken, up to which number
	sum    [nodesInAll]uint32     // of all that was taken
	sums   map[int]uint32         // by numbers: of all up to there
	taken  map[int]string
	led    map[int]int // by terms
	flight []api.Msg
	most   int // the greatest number that anybody took
	asked  map[int]int
	ctx    int
	reads  int
	loss   int  // of a hundred
	fixed  bool // the group is not changed
}

func newWorld(t *testing.T, seed int64) *world {
	w := &world{t: t, draw: rand.New(rand.NewSource(seed)), sums: map[int]uint32{0: 0}, taken: map[int]string{}, led: map[int]int{}, asked: map[int]int{}, loss: 10}
	for i := range nodesInAll {
		w.disks[i], _ = disk.New(1 << 22)
		w.open(i)
	}
	return w
}

func (w *world) open(i int) {
	r, err := raft.Open(i, w.disks[i], "p", w.draw.Intn(100), 0, 1, 2)
	if err != api.OK {
		w.t.Fatal("Open", i, err)
	}
	w.nodes[i], w.at[i], w.sum[i] = r, 0, 0
}

func (w *world) crash(i int) {
	w.disks[i].Crash(w.draw.Intn(1000))
	w.nodes[i] = nil
}

func (w *world) send(l []api.Msg) {
	for _, m := range l {
		if w.draw.Intn(100) < w.loss {
			continue
		}
		w.flight = append(w.flight, m)
		if w.draw.Intn(100) < w.loss {
			w.flight = append(w.flight, m)
		}
	}
}

// check looks at what a node says behind a call.
func (w *world) check(i int) {
	r := w.nodes[i]
	if len(r.Nodes()) == 0 {
		w.crash(i) // its disk erred
		return
	}
	role, term, _ := r.State()
	if role == api.Leader {
		if other, ok := w.led[term]; ok && other != i {
			w.t.Fatalf("%d and %d lead in term %d", i, other, term)
		}
		w.led[term] = i
	}
	got := r.Take()
	if got.Has {
		s := octet.NewReader(got.Snap)
		w.at[i], w.sum[i] = got.Index, uint32(s.Num())
		if w.sums[got.Index] != w.sum[i] {
			w.t.Fatalf("a snapshot of %d is another one", got.Index)
		}
	}
	if got.Index != w.at[i] {
		w.t.Fatalf("%d took from %d on, not %d", i, got.Index, w.at[i])
	}
	for _, e := range got.Entries {
		w.at[i]++
		is := fmt.Sprint(e.Term, e.Kind, string(e.Data), e.Nodes)
		if was, ok := w.taken[w.at[i]]; ok && was != is {
			w.t.Fatalf("%d took %s at %d, another one %s", i, is, w.at[i], was)
		}
		w.sum[i] = octet.Sum([]byte(fmt.Sprint(w.sum[i], is)))
		w.taken[w.at[i]], w.sums[w.at[i]] = is, w.sum[i]
		w.most = max(w.most, w.at[i])
	}
	for _, q := range r.Reads() {
		if q.Ok {
			w.reads++
			if q.Index < w.asked[q.Ctx] {
				w.t.Fatalf("question %d: Index %d, but %d was taken ahead of it", q.Ctx, q.Index, w.asked[q.Ctx])
			}
		}
	}
	if w.draw.Intn(60) == 0 {
		var s octet.Writer
		s.Nums(int(w.sum[i]))
		s.Raw(bytes.Repeat([]byte{7}, w.draw.Intn(1500))...)
		r.Compact(w.at[i], s.Out())
	}
	if len(r.Nodes()) == 0 {
		w.crash(i)
	}
}

func (w *world) step() {
	i := w.draw.Intn(nodesInAll)
	k := w.draw.Intn(1000)
	if k < 600 && len(w.flight) > 0 {
		at := w.draw.Intn(min(len(w.flight), 12))
		m := w.flight[at]
		w.flight = append(w.flight[:at], w.flight[at+1:]...)
		if r := w.nodes[m.To]; r != nil {
			w.send(r.Hear(m, w.draw.Intn(100)))
			w.check(m.To)
		}
		return
	}
	r := w.nodes[i]
	if r == nil {
		if k < 700 {
			w.open(i)
			w.check(i)
		}
		return
	}
	switch {
	case k < 900:
		w.send(r.Tick(w.draw.Intn(100)))
	case k < 960:
		_, l, _ := r.Propose([]byte(fmt.Sprint("op ", w.draw.Int())))
		w.send(l)
	case k < 975:
		w.ctx++
		w.asked[w.ctx] = w.most
		l, _ := r.Ask(w.ctx)
		w.send(l)
	case k < 985 && !w.fixed:
		w.change(r)
	case k < 990 && w.loss > 0:
		w.crash(i)
		return
	case k < 993 && w.loss > 0:
		w.disks[i].Fuse(w.draw.Intn(6))
	}
	w.check(i)
}

// change asks for a group with one node more or less.
func (w *world) change(r *raft.Node) {
	n := w.draw.Intn(nodesInAll)
	var nodes []int
	has := false
	for _, m := range r.Nodes() {
		if m == n {
			has = true
		} else {
			nodes = append(nodes, m)
		}
	}
	if !has {
		nodes = nil
		for m := range nodesInAll {
			if m == n || contains(r.Nodes(), m) {
				nodes = append(nodes, m)
			}
		}
	}
	_, l, _ := r.Change(nodes...)
	w.send(l)
}

func contains(l []int, n int) bool {
	for _, m := range l {
		if m == n {
			return true
		}
	}
	return false
}

// calm lets all be up, loses nothing, and goes on until what is proposed is taken by most.
func (w *world) calm() {
	w.loss = 0
	for i := range nodesInAll {
		w.disks[i].Fuse(-1)
		if w.nodes[i] == nil {
			w.open(i)
			w.check(i)
		}
	}
	begun := w.most
	for range 600 {
		for i, r := range w.nodes {
			w.send(r.Tick(w.draw.Intn(100)))
			_, l, _ := r.Propose([]byte("calm"))
			w.send(l)
			w.check(i)
		}
		for n := 0; len(w.flight) > 0 && n < 300; n++ {
			m := w.flight[0]
			w.flight = w.flight[1:]
			w.send(w.nodes[m.To].Hear(m, w.draw.Intn(100)))
			w.check(m.To)
		}
		if w.most > begun+30 {
			break
		}
	}
	// a node that has not heard of a Change may refuse the one who knows of it its vote: just safety is promised then
	if w.fixed && w.most <= begun {
		for i, r := range w.nodes {
			role, term, leader := r.State()
			base, last, commit := r.Log()
			w.t.Log(i, "role", role, term, leader, "log", base, last, commit, "group", r.Nodes())
		}
		w.t.Fatal("nothing is agreed upon, though nothing is lost; under way:", len(w.flight))
	}
	// all of the group have all
	for i, r := range w.nodes {
		if role, _, _ := r.State(); role == api.Leader {
			for _, n := range r.Nodes() {
				if w.fixed && w.at[n] < w.at[i]-60 {
					w.t.Errorf("node %d took up to %d, the leader up to %d", n, w.at[n], w.at[i])
				}
			}
		}
	}
	for i, a := range w.nodes {
		for _, b := range w.nodes[:i] {
			w.alike(a, b)
		}
	}
}

// alike: if two have entries of one number and term, all ahead of these is alike.
func (w *world) alike(a, b *raft.Node) {
	baseA, lastA, _ := a.Log()
	baseB, lastB, _ := b.Log()
	met := false
	for n := min(lastA, lastB); n > max(baseA, baseB); n-- {
		x, _ := a.At(n)
		y, _ := b.At(n)
		met = met || x.Term == y.Term
		if met && fmt.Sprint(x) != fmt.Sprint(y) {
			w.t.Fatalf("entries %d: %v and %v", n, x, y)
		}
	}
}

func TestTheyAgree(t *testing.T) {
	steps, seeds := 6000, 60
	if testing.Short() {
		seeds = 5
	}
	reads, most := 0, 0
	for seed := range seeds {
		w := newWorld(t, int64(seed))
		w.fixed = seed%2 == 0
		for range steps {
			w.step()
		}
		w.calm()
		reads, most = reads+w.reads, most+w.most
	}
	if reads == 0 || most < 20*seeds {
		t.Error("too little was done:", reads, most)
	}
}
