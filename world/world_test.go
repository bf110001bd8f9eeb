package world_test

import (
	"math"
	"reflect"
	"slices"
	"testing"

	"satrapy/api"
	"satrapy/disk"
	"satrapy/host"
	"satrapy/seat"
	"satrapy/world"
	"satrapy/zone"
)

type step = world.Step

func made(t *testing.T, seats, hosts, gates int) *world.World {
	t.Helper()
	w, err := world.New(world.Config{Seats: seats, Hosts: hosts, Gates: gates, Room: 1 << 16})
	if err != api.OK || w == nil {
		t.Fatal("New:", err)
	}
	return w
}

func want(t *testing.T, what string, got, want api.Errno) {
	t.Helper()
	if got != want {
		t.Errorf("%s: %v, not %v", what, got, want)
	}
}

func does(t *testing.T, w *world.World, l ...step) {
	t.Helper()
	for _, s := range l {
		want(t, "a step", w.Do(s), api.OK)
	}
}

func rest(n int) step                { return step{Kind: world.StepRest, N: n} }
func tick(node, n int) step          { return step{Kind: world.StepTick, Node: node, N: n} }
func submit(gate int, o api.Op) step { return step{Kind: world.StepSubmit, Node: gate, Op: o} }
func change(c api.Change) step       { return step{Kind: world.StepChange, Change: c} }
func at(key, who string) api.Place   { return api.Place{Key: key, Who: who} }
func mint(key string, n int) api.Op  { return api.Op{Kind: api.OpMint, At: at(key, "x"), Count: n} }
func split(zone int, k string) step {
	return change(api.Change{Kind: api.DirSplit, Zone: zone, Key: k})
}
func merge(zone int) step         { return change(api.Change{Kind: api.DirMerge, Zone: zone}) }
func move(zone, to int) step      { return change(api.Change{Kind: api.DirMove, Zone: zone, To: to}) }
func crash(node, draw int) step   { return step{Kind: world.StepCrash, Node: node, Draw: draw} }
func opened(node, draw int) step  { return step{Kind: world.StepOpen, Node: node, Draw: draw} }
func fuse(node, n int) step       { return step{Kind: world.StepFuse, Node: node, N: n} }
func pick(kind, n int) step       { return step{Kind: kind, Pick: n} }
func spoil(pick, at, by int) step { return step{Kind: world.StepSpoil, Pick: pick, N: at, Draw: by} }
func plans(hot, cold int) step    { return step{Kind: world.StepPlan, N: hot, Draw: cold} }
func given(n, draw int) step      { return step{Kind: world.StepGive, Pick: n, N: draw} }

func has(t *testing.T, w *world.World, p api.Place, n int) {
	t.Helper()
	if got, ok := w.At(p); !ok || got != (api.Items{n}) {
		t.Errorf("%v has %v, %v, not %d", p, got, ok, n)
	}
}

// asks lets a gate ask something, and rests until it is answered.
func asks(t *testing.T, w *world.World, node int, o api.Op) {
	t.Helper()
	does(t, w, submit(node, o))
	n := len(w.Gate(node).Answers())
	for range 30 {
		does(t, w, rest(1))
		if len(w.Gate(node).Answers()) > n {
			return
		}
	}
	t.Fatal("it was not answered:", o)
}

// ends rests until nothing is under way with a zone.
func ends(t *testing.T, w *world.World, version int) {
	t.Helper()
	for range 60 {
		does(t, w, rest(1))
		pending := slices.ContainsFunc(w.Map().Zones, func(z api.Zone) bool { return z.Pend != 0 })
		if w.Map().Version >= version && !pending {
			does(t, w, rest(8)) // all hear of it
			return
		}
	}
	t.Fatal("it does not end:", w.Map())
}

// P26.1
func TestNew(t *testing.T) {
	good := world.Config{Seats: 1, Hosts: 1, Gates: 1, Room: 1 << 16}
	with := func(f func(c *world.Config)) world.Config {
		c := good
		f(&c)
		return c
	}
	for _, n := range []int{0, -1, 7, math.MinInt, math.MaxInt} {
		for _, c := range []world.Config{with(func(c *world.Config) { c.Seats = n }), with(func(c *world.Config) { c.Hosts = n }), with(func(c *world.Config) { c.Gates = n })} {
			if w, err := world.New(c); w != nil || err != api.ErrArg {
				t.Error(c, err)
			}
		}
	}
	for _, c := range []world.Config{with(func(c *world.Config) { c.Seats = 4 }), with(func(c *world.Config) { c.Gates = 5 }), with(func(c *world.Config) { c.Room = -1 }), with(func(c *world.Config) { c.Room = 1<<24 + 1 })} {
		if w, err := world.New(c); w != nil || err != api.ErrArg {
			t.Error(c, err)
		}
	}
	if w, err := world.New(with(func(c *world.Config) { c.Room = 0 })); w != nil || err != api.ErrFull {
		t.Error("no room for a seat", err)
	}
	w, err := world.New(world.Config{Seats: 3, Hosts: 6, Gates: 4, Room: 1 << 24})
	if err != api.OK {
		t.Fatal(err)
	}
	for node := -1; node < 40; node++ {
		isSeat, isHost, isGate := node >= 0 && node < 3, node >= 8 && node < 14, node >= 32 && node < 36
		if w.Up(node) != (isSeat || isHost || isGate) || (w.Seat(node) != nil) != isSeat || (w.Host(node) != nil) != isHost || (w.Gate(node) != nil) != isGate || (w.Disk(node) != nil) != (isSeat || isHost) {
			t.Error(node)
		}
	}
	if w.Len() != 0 || len(w.Events()) != 0 || w.Map().Version != 1 || w.Map().Zones[0].Owner != 8 || len(w.Serving("a")) != 0 {
		t.Error("at first", w.Map())
	}
	if _, ok := w.At(at("a", "x")); ok {
		t.Error("nobody has a zone yet")
	}
	if !slices.Equal(w.Disk(0).List(), []string{"dir-log"}) || len(w.Disk(8).List()) != 0 {
		t.Error(w.Disk(0).List())
	}
}

func TestSeatsAreOpenedWithTheirNumbers(t *testing.T) {
	w := made(t, 3, 2, 1)
	for i := range 3 {
		d, _ := disk.New(1 << 16)
		twin, _ := seat.Open(i, d, i, 3, 8, 9)
		for n := range 60 {
			before := w.Len()
			does(t, w, tick(i, n))
			l := twin.Tick(n)
			if w.Len() != before+len(l) {
				t.Fatal(i, n, w.Len(), before, len(l))
			}
			for range l {
				does(t, w, pick(world.StepLose, w.Len()-1))
			}
		}
	}
}

// P26.2
func TestStepsThatAreNone(t *testing.T) {
	w := made(t, 1, 1, 1)
	for _, kind := range []int{0, -1, 14, math.MinInt, math.MaxInt} {
		want(t, "no Kind", w.Do(step{Kind: kind}), api.ErrArg)
	}
	for _, node := range []int{-1, 1, 7, 9, 31, 33, math.MinInt, math.MaxInt} {
		for _, kind := range []int{world.StepTick, world.StepFuse, world.StepCrash, world.StepOpen, world.StepSubmit} {
			want(t, "no node", w.Do(step{Kind: kind, Node: node}), api.ErrNone)
		}
	}
	for _, kind := range []int{world.StepFuse, world.StepCrash, world.StepOpen} {
		want(t, "a gate", w.Do(step{Kind: kind, Node: 32}), api.ErrNone)
	}
	for _, node := range []int{0, 8} {
		want(t, "no gate", w.Do(submit(node, mint("a", 1))), api.ErrNone)
	}
	for _, kind := range []int{world.StepGive, world.StepLose, world.StepTwice, world.StepLate, world.StepSpoil} {
		want(t, "nothing is under way", w.Do(step{Kind: kind, Draw: 1}), api.ErrNone)
	}
	if w.Len() != 0 || !w.Up(0) || !w.Up(8) {
		t.Error("something was done")
	}
}

func TestTickAndGive(t *testing.T) {
	w := made(t, 1, 1, 1)
	for range 3 {
		does(t, w, tick(8, 0))
	}
	if w.Len() != 0 {
		t.Error(w.Len())
	}
	does(t, w, tick(8, 0)) // a Pull
	if w.Len() != 1 {
		t.Error(w.Len())
	}
	does(t, w, given(0, 0)) // to the seat, which tells its map
	if w.Len() != 1 || w.Host(8).Map().Version != 0 {
		t.Error(w.Len())
	}
	does(t, w, given(5, 0))
	if w.Len() != 0 || w.Host(8).Map().Version != 1 || !slices.Equal(w.Serving("a"), []int{8}) {
		t.Error(w.Len(), w.Host(8).Map())
	}
	does(t, w, submit(32, mint("a", 5)), tick(32, 0))
	if w.Len() != 1 {
		t.Error(w.Len())
	}
	does(t, w, given(0, 0))
	if l := w.Events(); len(l) != 1 || l[0].Op.Count != 5 {
		t.Error("it is noted behind the step", l)
	}
	does(t, w, given(0, 0))
	if l := w.Gate(32).Answers(); len(l) != 1 || w.Len() != 0 {
		t.Error(l)
	}
	has(t, w, at("a", "x"), 5)
	want(t, "Submit of none", w.Do(submit(32, mint("a", 0))), api.ErrArg)
	does(t, w, submit(32, mint("a", 1)))
	want(t, "Submit of two", w.Do(submit(32, mint("a", 1))), api.ErrBusy)
}

func TestTheDrawOfASeat(t *testing.T) {
	for draw, n := range map[int]int{0: 10, 7: 17, -3: 10, 13: 13} {
		w := made(t, 1, 1, 1)
		does(t, w, fuse(0, 4)) // the term, and the entry: it stands once, and then leads
		for range 10 {
			does(t, w, tick(0, draw))
		}
		if role, _, _ := w.Seat(0).State(); role != api.Leader {
			t.Error(w.Seat(0).State())
		}
		two := made(t, 2, 1, 1)
		for range 10 {
			does(t, two, tick(0, draw))
		}
		for range n - 1 {
			does(t, two, tick(0, draw))
		}
		if _, term, _ := two.Seat(0).State(); term != 1 {
			t.Error(draw, term)
		}
		does(t, two, tick(0, draw))
		if _, term, _ := two.Seat(0).State(); term != 2 {
			t.Error(draw, term)
		}
		// a message's draw: a vote waits anew
		two = made(t, 2, 1, 1)
		for range 10 {
			does(t, two, tick(0, 0))
		}
		does(t, two, given(0, draw))
		for range n - 1 {
			does(t, two, tick(1, 0))
		}
		if _, term, _ := two.Seat(1).State(); term != 1 {
			t.Error(draw, term)
		}
		does(t, two, tick(1, 0))
		if _, term, _ := two.Seat(1).State(); term != 2 {
			t.Error(draw, term)
		}
	}
}

func TestMessagesOnTheirWay(t *testing.T) {
	w := made(t, 3, 1, 1)
	does(t, w, tick(8, 0), tick(8, 0), tick(8, 0), tick(8, 0)) // Pulls to 0, 1, 2
	does(t, w, pick(world.StepLate, 0))                        // 1, 2, 0
	does(t, w, pick(world.StepTwice, 1))                       // 1, 2, 0, 2
	does(t, w, pick(world.StepLose, 0))                        // 2, 0, 2
	does(t, w, spoil(1, 9, 256+3))                             // 2, 0 spoilt, 2
	want(t, "spoilt by 0", w.Do(spoil(0, 9, 256)), api.ErrNone)
	want(t, "spoilt twice", w.Do(spoil(1, 3, 1)), api.ErrNone)
	does(t, w, given(1, 0))
	if w.Len() != 2 {
		t.Error("of what is spoilt nothing comes", w.Len())
	}
	does(t, w, spoil(0, math.MinInt, -1))
	does(t, w, given(0, 0))
	if w.Len() != 1 {
		t.Error("spoilt", w.Len())
	}
	does(t, w, given(math.MinInt, 0))
	if w.Len() != 1 {
		t.Error("a Tell", w.Len())
	}
	does(t, w, given(math.MaxInt, 0))
	if w.Host(8).Map().Version != 1 {
		t.Error(w.Host(8).Map())
	}
}

func TestDown(t *testing.T) {
	w := made(t, 1, 1, 1)
	does(t, w, rest(20))
	asks(t, w, 32, mint("a", 5))
	want(t, "Open of one that is up", w.Do(opened(0, 0)), api.ErrBusy)
	want(t, "Open of one that is up", w.Do(opened(8, 0)), api.ErrBusy)
	w.Disk(8).Append("loose", []byte("12345"))
	does(t, w, crash(8, 2))
	if b, _ := w.Disk(8).Read("loose"); string(b) != "12" {
		t.Errorf("its disk Crashes by Draw: %q", b)
	}
	does(t, w, crash(0, 0))
	for _, node := range []int{0, 8} {
		if w.Up(node) || w.Seat(node) != nil || w.Host(node) != nil || w.Disk(node) == nil {
			t.Error(node, "is up")
		}
		want(t, "Tick of one that is down", w.Do(tick(node, 0)), api.ErrDead)
		does(t, w, crash(node, 0), fuse(node, 0))
		want(t, "a dead disk", openTorn(w, node), api.ErrDead)
		if w.Up(node) {
			t.Error(node, "is up")
		}
	}
	if _, ok := w.At(at("a", "x")); ok || !reflect.DeepEqual(w.Map(), api.Map{}) || len(w.Serving("a")) != 0 {
		t.Error("who is down says nothing")
	}
	does(t, w, submit(32, mint("a", 1)), tick(32, 0), given(0, 0)) // to a host that is down: nothing happens
	if w.Len() != 0 {
		t.Error(w.Len())
	}
	does(t, w, rest(3))
	for _, node := range []int{0, 8} {
		does(t, w, fuse(node, -1), opened(node, 3))
	}
	does(t, w, rest(30))
	has(t, w, at("a", "x"), 6)
	if l := w.Events(); len(l) != 2 {
		t.Error("noted once", l)
	}
}

// openTorn opens a node of which something is to be put right on a dead disk.
func openTorn(w *world.World, node int) api.Errno {
	w.Disk(node).Fuse(-1)
	name := map[int]string{0: "dir-log", 8: "z1-log"}[node]
	w.Disk(node).Append(name, []byte("torn"))
	w.Disk(node).Fuse(0)
	return w.Do(opened(node, 0))
}

func TestADeadOneGoesDown(t *testing.T) {
	for draw, kept := range map[int]string{0: "", 3: "123", -5: ""} {
		w := made(t, 1, 1, 1)
		does(t, w, rest(20), submit(32, mint("a", 5)))
		w.Disk(8).Append("loose", []byte("1234"))
		does(t, w, fuse(8, 0), step{Kind: world.StepRest, N: 7, Draw: draw})
		if w.Up(8) || !w.Up(0) {
			t.Error("its disk erred")
		}
		if b, _ := w.Disk(8).Read("loose"); string(b) != kept {
			t.Errorf("its disk Crashes by the step's Draw: %q", b)
		}
		w.Disk(0).Append("loose", []byte("1234"))
		does(t, w, fuse(0, 0), step{Kind: world.StepChange, Change: api.Change{Kind: api.DirSplit, Zone: 1, Key: "m"}})
		does(t, w, step{Kind: world.StepGive, Draw: draw})
		if w.Up(0) {
			t.Error("its disk erred")
		}
		if b, _ := w.Disk(0).Read("loose"); string(b) != kept {
			t.Errorf("its disk Crashes by the step's Draw: %q", b)
		}
		does(t, w, opened(0, 0), opened(8, 0), rest(30))
		has(t, w, at("a", "x"), 5)
	}
}

func TestEventsOfADyingHost(t *testing.T) {
	w := made(t, 1, 1, 1)
	does(t, w, rest(20))
	for range api.MaxLog - 1 {
		asks(t, w, 32, mint("a", 1))
	}
	does(t, w, submit(32, mint("a", 7)), tick(32, 0), fuse(8, 3))
	for w.Len() > 0 {
		does(t, w, given(0, 0))
	}
	if l := w.Events(); w.Up(8) || len(l) != api.MaxLog || l[api.MaxLog-1].Op.Count != 7 {
		t.Error("what was done is noted, though the Write behind it erred", l)
	}
	does(t, w, opened(8, 0))
	if l := w.Events(); len(l) != api.MaxLog {
		t.Error("not once more", l)
	}
	does(t, w, rest(20))
	has(t, w, at("a", "x"), 22)
}

func TestChanges(t *testing.T) {
	w := made(t, 3, 2, 1)
	does(t, w, rest(30))
	for name, c := range map[string]api.Change{
		"none": {}, "a done": {Kind: api.DirDone, Zone: 1, Epoch: 1}, "no key": {Kind: api.DirSplit, Zone: 1}, "no zone": {Kind: api.DirMerge}, "a kind": {Kind: 6, Zone: 1},
	} {
		want(t, name, w.Do(change(c)), api.ErrArg)
	}
	if w.Len() != 0 {
		t.Error(w.Len())
	}
	does(t, w, split(1, "m"))
	if w.Len() != 3 {
		t.Error("an Ask to each seat", w.Len())
	}
	ends(t, w, 3)
	if m := w.Map(); len(m.Zones) != 2 || m.Zones[0].Span.To != "m" {
		t.Error(m)
	}
	does(t, w, move(2, 9))
	ends(t, w, 5)
	if !slices.Equal(w.Serving("a"), []int{8}) || !slices.Equal(w.Serving("z"), []int{9}) {
		t.Error(w.Serving("a"), w.Serving("z"))
	}
	does(t, w, move(2, 8))
	ends(t, w, 7)
	does(t, w, merge(1))
	ends(t, w, 9)
	if m := w.Map(); len(m.Zones) != 1 || !slices.Equal(w.Serving("z"), []int{8}) {
		t.Error(m)
	}
	does(t, w, fuse(9, 0), move(1, 9), rest(2), change(api.Change{Kind: api.DirAbort, Zone: 1, Epoch: w.Map().Zones[0].Epoch}))
	ends(t, w, 11)
	if m := w.Map(); m.Zones[0].Owner != 8 {
		t.Error("aborted", m)
	}
}

func TestPlan(t *testing.T) {
	w := made(t, 1, 2, 1)
	does(t, w, rest(20))
	for i := range 32 {
		asks(t, w, 32, mint(string(rune('a'+i%8)), 5))
	}
	if l := w.Host(8).Loads(); len(l) != 1 || l[0].Hits != 32 || l[0].Middle != "d" {
		t.Error(l)
	}
	does(t, w, plans(32, 0))
	if w.Len() != 0 || w.Host(8).Loads()[0].Hits != 16 {
		t.Error("not above Hot; each Fades", w.Len(), w.Host(8).Loads())
	}
	does(t, w, plans(15, 0))
	if w.Len() != 1 || w.Host(8).Loads()[0].Hits != 8 {
		t.Error(w.Len(), w.Host(8).Loads())
	}
	ends(t, w, 3)
	if m := w.Map(); len(m.Zones) != 2 || m.Zones[1].Span.From != "d" {
		t.Error(m)
	}
	for _, key := range []string{"a", "e", "f"} {
		asks(t, w, 32, mint(key, 1))
	}
	does(t, w, plans(99, 0))
	ends(t, w, 5)
	if m := w.Map(); m.Zones[0].Owner == m.Zones[1].Owner {
		t.Error("one moves", m)
	}
	does(t, w, crash(0, 0), plans(0, 99))
	if w.Len() != 0 {
		t.Error("without a map nothing is planned")
	}
}

func TestRest(t *testing.T) {
	w := made(t, 1, 1, 1)
	does(t, w, rest(-5), rest(0), rest(math.MinInt))
	if w.Host(8).Map().Version != 0 {
		t.Error("no round")
	}
	does(t, w, rest(3))
	if w.Len() != 0 || w.Host(8).Map().Version != 0 {
		t.Error("three rounds")
	}
	does(t, w, rest(1))
	if w.Len() != 0 || w.Host(8).Map().Version != 1 {
		t.Error("a fourth: a Pull, and a Tell", w.Host(8).Map())
	}
	if role, _, _ := w.Seat(0).State(); role != api.Follower {
		t.Error(role)
	}
	does(t, w, rest(6))
	if role, _, _ := w.Seat(0).State(); role != api.Leader {
		t.Error("ten Ticks in all", role)
	}
	x := made(t, 1, 1, 1)
	does(t, x, rest(math.MaxInt))
	y := made(t, 1, 1, 1)
	does(t, y, rest(200))
	for _, w := range []*world.World{x, y} { // each fourth Tick of a host is a Pull
		does(t, w, tick(8, 0), tick(8, 0), tick(8, 0))
		if w.Len() != 0 {
			t.Error("at most 200 rounds")
		}
		if does(t, w, tick(8, 0)); w.Len() != 1 {
			t.Error("at least 200 rounds")
		}
	}
}

// A rest is what these steps are: all Tick, and what is under way is given.
func TestARestIsStepByStep(t *testing.T) {
	for seed := range 8 {
		a, b := made(t, 2, 3, 4), made(t, 2, 3, 4)
		both := func(l ...step) {
			for _, w := range []*world.World{a, b} {
				w.Run(l...)
			}
		}
		both(rest(40), split(1, "m"), rest(20), move(2, 9), rest(40))
		for i := range 40 {
			for g := range 4 {
				both(submit(32+g, mint(string(rune('a'+(i*7+g*11+seed)%26)), 1+i)))
			}
			if i%9 == 3 {
				both(fuse([]int{8, 9, 0}[i%3], 1+(i+seed)%7))
			}
			if i%9 == 8 {
				both(crash(8, 1), crash(9, 1), crash(0, 1), opened(8, 1), opened(9, 1), opened(0, 1), rest(20))
			}
			n := i % 4
			does(t, a, step{Kind: world.StepRest, N: n, Draw: seed})
			for round := range n {
				for node := range 36 {
					draw := 0
					if node < 2 {
						draw = node*7 + round
					}
					b.Do(step{Kind: world.StepTick, Node: node, N: draw, Draw: seed})
				}
				for b.Len() > 0 {
					does(t, b, step{Kind: world.StepGive, N: round, Draw: seed})
				}
			}
			if !slices.Equal(a.Events(), b.Events()) || !reflect.DeepEqual(a.Map(), b.Map()) {
				t.Fatal(seed, i, "a rest is another thing")
			}
			for _, node := range []int{0, 1, 8, 9, 10} {
				if a.Up(node) != b.Up(node) || !reflect.DeepEqual(a.Disk(node), b.Disk(node)) {
					t.Fatal(seed, i, "a rest is another thing to", node)
				}
			}
		}
		if len(a.Events()) < 20 {
			t.Error("too little was done", len(a.Events()))
		}
	}
}

func TestTheDrawsOfARest(t *testing.T) {
	// seat 1 waits 10 and 1 at first, then 10 and (1 * 7 + how many rounds are done) modulo 10
	w := made(t, 2, 1, 1)
	does(t, w, crash(0, 0), rest(10))
	if _, term, _ := w.Seat(1).State(); term != 0 {
		t.Error(term)
	}
	does(t, w, rest(1)) // none is done in this step: the draw is 7
	if _, term, _ := w.Seat(1).State(); term != 1 {
		t.Error(term)
	}
	does(t, w, rest(16))
	if _, term, _ := w.Seat(1).State(); term != 1 {
		t.Error(term)
	}
	does(t, w, rest(1))
	if _, term, _ := w.Seat(1).State(); term != 2 {
		t.Error(term)
	}
	x := made(t, 2, 1, 1)
	does(t, x, crash(0, 0), rest(11)) // ten are done: the draw is 17, too
	does(t, x, rest(16))
	if _, term, _ := x.Seat(1).State(); term != 1 {
		t.Error(term)
	}
	y := made(t, 2, 1, 1)
	does(t, y, crash(0, 0), rest(6), rest(5)) // four are done: the draw is 11
	does(t, y, rest(10))
	if _, term, _ := y.Seat(1).State(); term != 1 {
		t.Error(term)
	}
	does(t, y, rest(1))
	if _, term, _ := y.Seat(1).State(); term != 2 {
		t.Error(term)
	}
}

// P26.3
func TestRunAndReading(t *testing.T) {
	w := made(t, 1, 1, 1)
	errs := w.Run(rest(30), submit(32, mint("a", 5)), rest(9), tick(5, 0), step{})
	if !slices.Equal(errs, []api.Errno{0, 0, 0, api.ErrNone, api.ErrArg}) || len(w.Run()) != 0 {
		t.Error(errs)
	}
	has(t, w, at("a", "x"), 5)
	has(t, w, at("b", "x"), 0)
	if _, ok := w.At(at("", "x")); ok {
		t.Error("At of no key")
	}
	l := w.Events()
	if len(l) != 1 || l[0] != (zone.Event{Zone: 1, Index: 1, Op: api.Op{Kind: api.OpMint, Client: 1, Seq: 1, At: at("a", "x"), Count: 5}}) {
		t.Error(l)
	}
	l[0].Index = 9
	if w.Events()[0].Index != 1 {
		t.Error("Events share memory")
	}
	m := w.Map()
	m.Zones[0].Owner = 9
	if w.Map().Zones[0].Owner != 8 {
		t.Error("Map shares memory")
	}
}

func TestTheNewestMap(t *testing.T) {
	w := made(t, 3, 1, 1)
	does(t, w, rest(30), split(1, "m"))
	does(t, w, rest(1))
	newest := 0
	for i := range 3 {
		newest = max(newest, w.Seat(i).Map().Version)
	}
	if newest < 2 || w.Map().Version != newest {
		t.Error(w.Map().Version, newest)
	}
}

func TestTheFirstHostThatSaysSo(t *testing.T) {
	w := made(t, 1, 3, 1)
	does(t, w, rest(20))
	asks(t, w, 32, mint("z", 4))
	does(t, w, split(1, "m"))
	ends(t, w, 3)
	does(t, w, move(2, 10))
	ends(t, w, 5)
	has(t, w, at("z", "x"), 4)
	if !slices.Equal(w.Serving("z"), []int{10}) || len(w.Serving("")) != 0 {
		t.Error(w.Serving("z"))
	}
	if b, _ := host.Open(8, w.Disk(10).Copy(), 1); len(b.Zones()) != 1 {
		t.Error("the zone is on the disk of 10")
	}
}

// P26.4
func TestTwins(t *testing.T) {
	l := []step{rest(25), submit(32, mint("a", 5)), submit(33, mint("q", 5)), rest(3), split(1, "m"), fuse(8, 20), rest(9), {Kind: world.StepTwice, Pick: 3}, move(2, 9), crash(1, 3), rest(7), opened(1, 5), spoil(1, 2, 3), rest(20), plans(1, 5), rest(5), crash(8, 9), opened(8, 0), rest(40)}
	a, b := made(t, 3, 3, 2), made(t, 3, 3, 2)
	if x, y := a.Run(l...), b.Run(l...); !slices.Equal(x, y) {
		t.Error(x, y)
	}
	if !slices.Equal(a.Events(), b.Events()) || !reflect.DeepEqual(a.Map(), b.Map()) || a.Len() != b.Len() {
		t.Error("twins differ")
	}
	for _, node := range []int{0, 1, 2, 8, 9, 10} {
		if !reflect.DeepEqual(a.Disk(node), b.Disk(node)) {
			t.Error(node, "their disks differ")
		}
	}
}

func TestNilWorld(t *testing.T) {
	var w *world.World
	want(t, "Do", w.Do(rest(1)), api.ErrArg)
	if _, ok := w.At(at("a", "x")); ok || len(w.Run(rest(1))) != 0 || w.Up(0) || w.Host(8) != nil || w.Seat(0) != nil || w.Gate(32) != nil || w.Disk(0) != nil || len(w.Events()) != 0 || len(w.Serving("a")) != 0 || w.Len() != 0 || !reflect.DeepEqual(w.Map(), api.Map{}) {
		t.Error("a nil World")
	}
}
