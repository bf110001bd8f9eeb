package seat_test

import (
	"bytes"
	"math"
	"math/rand"
	"reflect"
	"slices"
	"testing"

	"satrapy/api"
	"satrapy/dir"
	"satrapy/disk"
	"satrapy/journal"
	"satrapy/raft"
	"satrapy/seat"
	"satrapy/wire"
)

func fresh(t *testing.T) *disk.Disk {
	t.Helper()
	d, err := disk.New(1 << 20)
	if err != api.OK {
		t.Fatal(err)
	}
	return d
}

func open(t *testing.T, id int, d *disk.Disk, seats int, hosts ...int) *seat.Seat {
	t.Helper()
	s, err := seat.Open(id, d, 0, seats, hosts...)
	if err != api.OK || s == nil {
		t.Fatal("Open:", err)
	}
	return s
}

func ticks(s *seat.Seat, n int) (l []api.Msg) {
	for range n {
		l = s.Tick(0)
	}
	return l
}

// alone is a seat that is all of the group, and leads.
func alone(t *testing.T, d *disk.Disk, hosts ...int) *seat.Seat {
	t.Helper()
	s := open(t, 0, d, 1, hosts...)
	ticks(s, 11)
	if role, _, leader := s.State(); role != api.Leader || leader != 0 {
		t.Fatal(s.State())
	}
	return s
}

func says(t *testing.T, w wire.Word) []byte {
	t.Helper()
	b, err := wire.Encode(w)
	if err != api.OK {
		t.Fatal(w, err)
	}
	return b
}

func ask(t *testing.T, from, to int, c api.Change) api.Msg {
	return api.Msg{From: from, To: to, Data: says(t, wire.Word{Kind: wire.Ask, Change: c})}
}

func split(zone int, key string) api.Change {
	return api.Change{Kind: api.DirSplit, Zone: zone, Key: key}
}
func move(zone, to int) api.Change { return api.Change{Kind: api.DirMove, Zone: zone, To: to} }
func done(zone, epoch int) api.Change {
	return api.Change{Kind: api.DirDone, Zone: zone, Epoch: epoch}
}

// P18.1
func TestOpen(t *testing.T) {
	d := fresh(t)
	for _, c := range []struct {
		id, seats int
		hosts     []int
		d         *disk.Disk
	}{
		{0, 0, []int{8}, d}, {0, 4, []int{8}, d}, {0, -1, []int{8}, d}, {0, math.MaxInt, []int{8}, d}, {-1, 3, []int{8}, d}, {3, 3, []int{8}, d}, {1, 1, []int{8}, d},
		{0, 1, nil, d}, {0, 1, []int{7}, d}, {0, 1, []int{9, 8}, d}, {0, 1, []int{8}, nil},
	} {
		if s, err := seat.Open(c.id, c.d, 0, c.seats, c.hosts...); err != api.ErrArg || s != nil {
			t.Error(c, err)
		}
	}
	if len(d.List()) != 0 {
		t.Error(d.List())
	}
	d.Append("dir-log", []byte("none"))
	if s, err := seat.Open(0, d, 0, 1, 8); err != api.ErrForm || s != nil {
		t.Error(err)
	}
	d = fresh(t)
	d.Fuse(1)
	if s, err := seat.Open(0, d, 0, 1, 8); err != api.ErrDead || s != nil {
		t.Error(err)
	}
	d.Fuse(-1)
	s := open(t, 2, d, 3, 9, 11)
	if !reflect.DeepEqual(s.Map(), api.Map{Version: 1, Next: 2, Zones: []api.Zone{{ID: 1, Owner: 9, Epoch: 1}}}) || s.Dead() {
		t.Error(s.Map())
	}
	if role, term, leader := s.State(); role != 0 || term != 0 || leader != -1 {
		t.Error(s.State())
	}
	if !slices.Equal(d.List(), []string{"dir-log"}) {
		t.Error(d.List())
	}
}

func TestOpenTakesTheSnapshot(t *testing.T) {
	m := api.Map{Version: 7, Next: 3, Zones: []api.Zone{{ID: 2, Owner: 9, Epoch: 5}}}
	for name, c := range map[string]struct {
		snap []byte
		want int
	}{"a map": {dir.Encode(m), 7}, "none": {[]byte("none"), 1}, "a map of another host": {dir.Encode(api.Map{Version: 7, Next: 3, Zones: []api.Zone{{ID: 2, Owner: 10, Epoch: 5}}}), 1}} {
		d := fresh(t)
		j, _ := journal.Open(d, "dir", 0)
		j.Append(api.Entry{Term: 1})
		j.Compact(1, c.snap)
		if s := open(t, 0, d, 1, 8, 9); s.Map().Version != c.want {
			t.Error(name, s.Map())
		}
	}
}

// P18.2
func TestTickIsTheNodes(t *testing.T) {
	d := fresh(t)
	s, _ := seat.Open(1, d, 4, 3, 8)
	twin, _ := raft.Open(1, fresh(t), "dir", 4, 0, 1, 2)
	for i := range 40 {
		got, want := s.Tick(i), twin.Tick(i)
		if len(got) != len(want) {
			t.Fatal(i, got, want)
		}
		for k, m := range want {
			if got[k].From != 1 || got[k].To != m.To || !bytes.Equal(got[k].Data, says(t, wire.Word{Kind: wire.Raft, Data: m.Data})) {
				t.Fatal(i, got[k])
			}
		}
		if _, term, _ := s.State(); i > 20 && term == 0 {
			t.Fatal("it never stands")
		}
	}
}

func TestHearOfTheNodes(t *testing.T) {
	a, b := open(t, 0, fresh(t), 2, 8), open(t, 1, fresh(t), 2, 8)
	l := ticks(a, 10)
	if len(l) != 1 || l[0].To != 1 {
		t.Fatal(l)
	}
	if got := b.Hear(api.Msg{From: 5, To: 1, Data: l[0].Data}, 0); len(got) != 0 {
		t.Error("by m's From", got)
	}
	for n := 0; len(l) > 0 && n < 50; n++ {
		l = append(l[1:], []*seat.Seat{a, b}[l[0].To].Hear(l[0], 0)...)
	}
	if role, _, leader := a.State(); role != api.Leader || leader != 0 {
		t.Error(a.State())
	}
	if role, _, leader := b.State(); role != api.Follower || leader != 0 {
		t.Error(b.State())
	}
	for _, m := range a.Hear(ask(t, 99, 0, split(1, "m")), 0) {
		b.Hear(m, 0)
		for _, r := range b.Hear(m, 0) {
			for _, more := range a.Hear(r, 0) {
				b.Hear(more, 0)
			}
		}
	}
	if a.Map().Version != 2 || b.Map().Version != 2 || !reflect.DeepEqual(a.Map(), b.Map()) {
		t.Error(a.Map(), b.Map())
	}
}

func TestHearNothing(t *testing.T) {
	s := alone(t, fresh(t), 8)
	good := ask(t, 99, 0, split(1, "m"))
	spoilt := bytes.Clone(good.Data)
	spoilt[12] ^= 1
	for name, m := range map[string]api.Msg{
		"to another one": {From: 99, To: 1, Data: good.Data},
		"no word":        {From: 99, To: 0, Data: []byte("none")},
		"nothing":        {From: 99, To: 0},
		"spoilt":         {From: 99, To: 0, Data: spoilt},
		"a Call":         {From: 99, To: 0, Data: says(t, wire.Word{Kind: wire.Call, Op: api.Op{Kind: api.OpLook, Client: 1, Seq: 1, At: api.Place{Key: "a", Who: "b"}}})},
		"a Shipped":      {From: 99, To: 0, Data: says(t, wire.Word{Kind: wire.Shipped, Zone: 1, Epoch: 1})},
		"a Tell":         {From: 99, To: 0, Data: says(t, wire.Word{Kind: wire.Tell, Map: api.Map{Version: 9, Next: 2, Zones: []api.Zone{{ID: 1, Owner: 8, Epoch: 1}}}})},
	} {
		if l := s.Hear(m, 0); len(l) != 0 || s.Map().Version != 1 {
			t.Error(name, l, s.Map())
		}
	}
}

func TestPull(t *testing.T) {
	s := alone(t, fresh(t), 8)
	s.Hear(ask(t, 99, 0, split(1, "m")), 0)
	for index, tells := range map[int]bool{0: true, 1: true, 2: true, 3: false, 1 << 40: false} {
		l := s.Hear(api.Msg{From: 77, To: 0, Data: says(t, wire.Word{Kind: wire.Pull, Index: index})}, 0)
		want := []api.Msg{{From: 0, To: 77, Data: says(t, wire.Word{Kind: wire.Tell, Map: s.Map()})}}
		if tells && !reflect.DeepEqual(l, want) || !tells && len(l) != 0 {
			t.Error(index, l)
		}
	}
	f := open(t, 1, fresh(t), 3, 8)
	if l := f.Hear(api.Msg{From: 8, To: 1, Data: says(t, wire.Word{Kind: wire.Pull})}, 0); len(l) != 1 || l[0].To != 8 {
		t.Error("also one that does not lead", l)
	}
}

func TestAsk(t *testing.T) {
	d := fresh(t)
	s := open(t, 0, d, 1, 8, 9)
	s.Hear(ask(t, 8, 0, split(1, "m")), 0)
	if s.Map().Version != 1 {
		t.Error("it does not lead", s.Map())
	}
	ticks(s, 11)
	for _, c := range []struct {
		from, version int
		c             api.Change
	}{
		{8, 1, split(9, "m")}, {8, 1, done(1, 1)}, {99, 2, split(1, "m")}, {8, 2, split(1, "m")},
		{9, 2, done(1, 1)}, {99, 2, done(1, 1)}, {0, 2, done(1, 1)}, {8, 2, done(1, 2)}, {8, 3, done(1, 1)},
		{9, 4, move(2, 9)}, {9, 4, done(2, 2)}, {8, 5, done(2, 2)}, {9, 5, done(2, 3)},
		{99, 6, move(2, 8)}, {8, 6, done(2, 3)}, {77, 7, api.Change{Kind: api.DirAbort, Zone: 2, Epoch: 3}},
	} {
		s.Hear(ask(t, c.from, 0, c.c), 0)
		if s.Map().Version != c.version {
			t.Errorf("%v from %d: %v", c.c, c.from, s.Map())
		}
	}
	d.Crash(0)
	was := s.Map()
	s = open(t, 0, d, 1, 8, 9)
	if s.Map().Version != 1 {
		t.Error("nothing is agreed upon yet", s.Map())
	}
	if ticks(s, 11); !reflect.DeepEqual(s.Map(), was) {
		t.Error(s.Map(), was)
	}
}

func TestAskWaitsForWhatIsAhead(t *testing.T) {
	a, b := open(t, 0, fresh(t), 2, 8), open(t, 1, fresh(t), 2, 8)
	l := ticks(a, 10)
	for n := 0; len(l) > 0 && n < 50; n++ {
		l = append(l[1:], []*seat.Seat{a, b}[l[0].To].Hear(l[0], 0)...)
	}
	first := a.Hear(ask(t, 99, 0, split(1, "m")), 0)
	if len(first) != 1 {
		t.Fatal(first)
	}
	if l := a.Hear(ask(t, 99, 0, split(1, "n")), 0); len(l) != 0 {
		t.Error("its last number is not its commit", l)
	}
	for _, m := range b.Hear(first[0], 0) {
		a.Hear(m, 0)
	}
	if m := a.Map(); m.Version != 2 || m.Zones[0].Key != "m" {
		t.Error(m)
	}
}

func TestCompact(t *testing.T) {
	d := fresh(t)
	s := alone(t, d, 8, 9)
	change := func(i int) api.Change {
		if i%2 == 0 {
			return move(1, 9)
		}
		return api.Change{Kind: api.DirAbort, Zone: 1, Epoch: 1 + i/2}
	}
	for i := range api.MaxLog - 2 {
		s.Hear(ask(t, 99, 0, change(i)), 0)
	}
	if slices.Contains(d.List(), "dir-snap") {
		t.Error("not yet", d.List())
	}
	s.Hear(ask(t, 99, 0, change(api.MaxLog-2)), 0)
	was := s.Map()
	if was.Version != api.MaxLog || !slices.Contains(d.List(), "dir-snap") {
		t.Error(was, d.List())
	}
	based := func() int {
		j, err := journal.Open(d.Copy(), "dir", 0)
		if err != api.OK {
			t.Fatal(err)
		}
		index, _ := j.Base()
		return index
	}
	for i := range api.MaxLog - 1 {
		s.Hear(ask(t, 99, 0, change(api.MaxLog-1+i)), 0)
		if based() != api.MaxLog {
			t.Error("not yet once more", i)
		}
	}
	s.Hear(ask(t, 99, 0, change(2*api.MaxLog-2)), 0)
	if based() != 2*api.MaxLog {
		t.Error("once more", based())
	}
	was = s.Map()
	d.Crash(0)
	j, err := journal.Open(d, "dir", 0)
	if err != api.OK {
		t.Fatal(err)
	}
	if snap, _ := j.Snapshot(); !bytes.Equal(snap, dir.Encode(was)) {
		t.Errorf("% x", snap)
	}
	if s := open(t, 0, d, 1, 8, 9); !reflect.DeepEqual(s.Map(), was) {
		t.Error(s.Map())
	}
}

func TestEntriesThatAreNone(t *testing.T) {
	d := fresh(t)
	j, _ := journal.Open(d, "dir", 0)
	good, _ := dir.EncodeChange(split(1, "m"))
	j.Append(api.Entry{Term: 1, Kind: api.EntryData, Data: []byte("none")}, api.Entry{Term: 1, Kind: api.EntryData, Data: good}, api.Entry{Term: 1, Kind: api.EntryData, Data: good})
	s := open(t, 0, d, 1, 8)
	if ticks(s, 10); s.Map().Version != 2 {
		t.Error(s.Map())
	}
}

// P18.3
func TestDead(t *testing.T) {
	d := fresh(t)
	s := alone(t, d, 8)
	if s.Dead() {
		t.Error("dead at first")
	}
	d.Fuse(1)
	s.Hear(ask(t, 99, 0, split(1, "m")), 0)
	if !s.Dead() {
		t.Error("its disk erred")
	}
	if role, term, leader := s.State(); role != 0 || term != 0 || leader != -1 {
		t.Error(s.State())
	}
	if s.Map().Version != 1 || len(ticks(s, 30)) != 0 {
		t.Error(s.Map())
	}
	f := open(t, 0, fresh(t), 3, 8)
	if f.Dead() {
		t.Error("State 0, 0, -1 alone is not dead")
	}
}

// P18.4
func TestOneMapOfAVersion(t *testing.T) {
	for seed := range 25 {
		draw := rand.New(rand.NewSource(int64(seed)))
		maps := map[int]api.Map{}
		var disks [3]*disk.Disk
		var seats [3]*seat.Seat
		up := func(i int) {
			s, err := seat.Open(i, disks[i], draw.Intn(99), 3, 8, 9, 10)
			if err != api.OK {
				t.Fatal(err)
			}
			seats[i] = s
		}
		for i := range 3 {
			disks[i] = fresh(t)
			up(i)
		}
		look := func(i int) {
			m := seats[i].Map()
			if was, ok := maps[m.Version]; ok && !reflect.DeepEqual(was, m) {
				t.Fatal("two maps of one version:", was, m)
			}
			maps[m.Version] = m
			if seats[i].Dead() {
				disks[i].Crash(draw.Intn(99))
				up(i)
			}
		}
		var flight []api.Msg
		loss := 10
		send := func(l []api.Msg) {
			for _, m := range l {
				if draw.Intn(100) >= loss {
					flight = append(flight, m)
				}
				if draw.Intn(100) < loss {
					flight = append(flight, m)
				}
			}
		}
		for step := range 6000 {
			if step == 5000 {
				loss = 0
				for i := range 3 {
					disks[i].Fuse(-1)
				}
			}
			if len(flight) > 0 && draw.Intn(3) > 0 {
				at := draw.Intn(min(8, len(flight)))
				m := flight[at]
				flight = slices.Delete(flight, at, at+1)
				if m.To < 3 {
					send(seats[m.To].Hear(m, draw.Intn(99)))
					look(m.To)
				}
				continue
			}
			i := draw.Intn(3)
			switch k := draw.Intn(100); {
			case k < 70:
				send(seats[i].Tick(draw.Intn(99)))
			case k < 95:
				m := seats[i].Map()
				z := m.Zones[draw.Intn(len(m.Zones))]
				c := []api.Change{split(z.ID, string(rune('a'+draw.Intn(26)))), {Kind: api.DirMerge, Zone: z.ID}, move(z.ID, 8+draw.Intn(3)), done(z.ID, z.Epoch), done(z.ID, z.Epoch), {Kind: api.DirAbort, Zone: z.ID, Epoch: z.Epoch}}[draw.Intn(6)]
				send(seats[i].Hear(ask(t, z.Owner, i, c), draw.Intn(99)))
			case k < 97 && loss > 0:
				disks[i].Crash(draw.Intn(99))
				up(i)
			case k < 98 && loss > 0:
				disks[i].Fuse(draw.Intn(9))
			}
			look(i)
		}
		if len(maps) < 10 {
			t.Error(seed, "too little was done:", len(maps))
		}
	}
}

func TestNewMemory(t *testing.T) {
	d := fresh(t)
	hosts := append(make([]int, 0, 3), 8, 9)
	s, _ := seat.Open(0, d, 0, 1, hosts...)
	hosts[1] = 11
	ticks(s, 11)
	m := ask(t, 99, 0, move(1, 9))
	was := bytes.Clone(m.Data)
	s.Hear(m, 0)
	if !bytes.Equal(m.Data, was) || s.Map().Version != 2 || hosts[:3][2] != 0 {
		t.Error(s.Map())
	}
	got := s.Map()
	got.Zones[0].Owner = 10
	if s.Map().Zones[0].Owner != 8 {
		t.Error(s.Map())
	}
}

func TestNilSeat(t *testing.T) {
	var s *seat.Seat
	if len(s.Tick(1)) != 0 || len(s.Hear(api.Msg{}, 1)) != 0 || !reflect.DeepEqual(s.Map(), api.Map{}) || s.Dead() {
		t.Error("a nil Seat")
	}
	if role, term, leader := s.State(); role != 0 || term != 0 || leader != 0 {
		t.Error(s.State())
	}
}
