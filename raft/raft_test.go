package raft_test

import (
	"bytes"
	"fmt"
	"math"
	"reflect"
	"slices"
	"strings"
	"testing"

	"satrapy/api"
	"satrapy/disk"
	"satrapy/frame"
	"satrapy/journal"
	"satrapy/keep"
	"satrapy/octet"
	"satrapy/raft"
)

const top = 1 << 40

func fresh(t *testing.T) *disk.Disk {
	t.Helper()
	d, err := disk.New(1 << 24)
	if err != api.OK {
		t.Fatal(err)
	}
	return d
}

func open(t *testing.T, id int, d *disk.Disk, draw int, nodes ...int) *raft.Node {
	t.Helper()
	r, err := raft.Open(id, d, "p", draw, nodes...)
	if err != api.OK || r == nil {
		t.Fatal("Open:", err)
	}
	return r
}

func want(t *testing.T, what string, got, want api.Errno) {
	t.Helper()
	if got != want {
		t.Errorf("%s: %v, not %v", what, got, want)
	}
}

// pack is a message's bytes: numbers, and rows of bytes, in order.
func pack(v ...any) []byte {
	var w octet.Writer
	for _, x := range v {
		switch x := x.(type) {
		case int:
			w.Nums(x)
		case string:
			w.Bytes([]byte(x))
		}
	}
	b, _ := frame.Encode(w.Out())
	return b
}

func msg(from, to int, v ...any) api.Msg { return api.Msg{From: from, To: to, Data: pack(v...)} }

func unpack(m api.Msg) string {
	p, err := frame.One(m.Data)
	return fmt.Sprintf("%d>%d % x %v", m.From, m.To, p, err)
}

func sends(t *testing.T, what string, got []api.Msg, want ...api.Msg) {
	t.Helper()
	if len(got) == len(want) && (len(got) == 0 || reflect.DeepEqual(got, want)) {
		return
	}
	t.Errorf("%s sends", what)
	for _, m := range got {
		t.Error("  ", unpack(m))
	}
	t.Error("not")
	for _, m := range want {
		t.Error("  ", unpack(m))
	}
}

func says(t *testing.T, what string, r *raft.Node, role, term, leader int) {
	t.Helper()
	if a, b, c := r.State(); a != role || b != term || c != leader {
		t.Errorf("%s: State %d %d %d, not %d %d %d", what, a, b, c, role, term, leader)
	}
}

func logs(t *testing.T, what string, r *raft.Node, base, last, commit int) {
	t.Helper()
	if a, b, c := r.Log(); a != base || b != last || c != commit {
		t.Errorf("%s: Log %d %d %d, not %d %d %d", what, a, b, c, base, last, commit)
	}
}

func ticks(r *raft.Node, n int) (l []api.Msg) {
	for range n {
		l = r.Tick(0)
	}
	return l
}

// leader is node 0 of the group as a leader of term 1, with an entry of its own that is not agreed upon
// yet (but in a group of one).
func leader(t *testing.T, d *disk.Disk, nodes ...int) *raft.Node {
	t.Helper()
	r := open(t, 0, d, 0, nodes...)
	ticks(r, 10)
	for _, n := range nodes {
		if role, _, _ := r.State(); role != api.Leader {
			r.Hear(msg(n, 0, 2, 1, 1), 0)
		}
	}
	says(t, "a leader", r, api.Leader, 1, 0)
	return r
}

// P6.1
func TestOpen(t *testing.T) {
	d := fresh(t)
	for _, id := range []int{-1, 7, math.MinInt, math.MaxInt} {
		if r, err := raft.Open(id, d, "p", 0, 0); err != api.ErrArg || r != nil {
			t.Error(id, err)
		}
	}
	for name, err := range map[string]api.Errno{
		"no disk":   errOf(raft.Open(0, nil, "p", 0, 0)),
		"no prefix": errOf(raft.Open(0, d, "", 0, 0)),
		"no nodes":  errOf(raft.Open(0, d, "p", 0)),
		"nodes":     errOf(raft.Open(0, d, "p", 0, 1, 0)),
	} {
		want(t, name, err, api.ErrArg)
	}
	bad := fresh(t)
	bad.Append("p-log", []byte("x"))
	want(t, "a log that is none", errOf(raft.Open(0, bad, "p", 0, 0)), api.ErrForm)
	dead := fresh(t)
	dead.Fuse(1)
	want(t, "a dead disk", errOf(raft.Open(0, dead, "p", 0, 0)), api.ErrDead)

	r := open(t, 6, d, 0, 1, 2)
	says(t, "at first", r, api.Follower, 0, -1)
	logs(t, "at first", r, 0, 0, 0)
	if !slices.Equal(r.Nodes(), []int{1, 2}) {
		t.Error(r.Nodes())
	}
}

func errOf(r *raft.Node, err api.Errno) api.Errno {
	if err != api.OK && r != nil {
		return -1
	}
	return err
}

func TestOpenBehindASnapshot(t *testing.T) {
	d := fresh(t)
	j, _ := journal.Open(d, "p", 0, 1)
	j.SetTerm(4, 1)
	j.Append(api.Entry{Term: 3}, api.Entry{Term: 4, Kind: 1, Data: []byte("x")}, api.Entry{Term: 4})
	j.Compact(2, []byte("snap"))
	r := open(t, 0, d, 0, 5)
	says(t, "opened", r, api.Follower, 4, -1)
	logs(t, "opened", r, 2, 3, 2)
	if got := r.Take(); !got.Has || string(got.Snap) != "snap" || got.Index != 2 || len(got.Entries) != 0 {
		t.Error(got)
	}
	if got := r.Take(); got.Has || len(got.Snap) != 0 || got.Index != 2 || len(got.Entries) != 0 {
		t.Error("once more", got)
	}
}

func TestWaitsAnew(t *testing.T) {
	for draw, n := range map[int]int{0: 10, 3: 13, 9: 19, 10: 10, 27: 17, -1: 10, math.MinInt: 10, math.MaxInt: 17} {
		r := open(t, 0, fresh(t), draw, 0, 1)
		for i := 1; i < n; i++ {
			sends(t, "a Tick too early", r.Tick(0))
		}
		says(t, "ahead", r, api.Follower, 0, -1)
		if l := r.Tick(draw); len(l) != 1 {
			t.Error(draw, len(l))
		}
		says(t, "it stands", r, api.Candidate, 1, -1)
		for i := 1; i < n; i++ {
			sends(t, "a Tick too early", r.Tick(0))
		}
		r.Tick(0)
		says(t, "it stands again", r, api.Candidate, 2, -1)
	}
}

// P6.2
func TestTickAlone(t *testing.T) {
	d := fresh(t)
	r := open(t, 0, d, 0, 0)
	sends(t, "ten Ticks", ticks(r, 10))
	says(t, "alone", r, api.Leader, 1, 0)
	logs(t, "alone", r, 0, 1, 1)
	got := r.Take()
	if got.Has || got.Index != 0 || len(got.Entries) != 1 || got.Entries[0].Kind != api.EntryEmpty || got.Entries[0].Term != 1 {
		t.Error(got)
	}
	d.Crash(0)
	r = open(t, 0, d, 0, 0)
	says(t, "the term was written", r, api.Follower, 1, -1)
	logs(t, "the entry was written", r, 0, 1, 0)
}

func TestTickStands(t *testing.T) {
	d := fresh(t)
	j, _ := journal.Open(d, "p", 0, 2, 5)
	j.SetTerm(6, 2)
	j.Append(api.Entry{Term: 3}, api.Entry{Term: 5})
	r := open(t, 2, d, 0, 0)
	sends(t, "a candidate", ticks(r, 10), msg(2, 0, 1, 7, 2, 5), msg(2, 5, 1, 7, 2, 5))
	d.Crash(0)
	j, _ = journal.Open(d, "p", 0)
	if term, vote := j.Term(); term != 7 || vote != 2 {
		t.Error(term, vote)
	}
}

func TestTickOutOfTheGroup(t *testing.T) {
	r := open(t, 5, fresh(t), 0, 0, 1)
	for range 100 {
		sends(t, "a node that is not of the group", r.Tick(3))
	}
	says(t, "it never stands", r, api.Follower, 0, -1)
}

func TestHeartbeat(t *testing.T) {
	r := leader(t, fresh(t), 0, 1, 2)
	for range 5 {
		sends(t, "two Ticks", ticks(r, 2))
		all := r.Tick(0)
		sends(t, "a third", all, msg(0, 1, 3, 1, 0, 0, 0, 0, 1, 1, 0, "", 0), msg(0, 2, 3, 1, 0, 0, 0, 0, 1, 1, 0, "", 0))
	}
}

// P6.3
func TestHearNothing(t *testing.T) {
	good := pack(3, 9, 0, 0, 0, 0, 0)
	spoilt := bytes.Clone(good)
	spoilt[9] ^= 1
	for name, m := range map[string]api.Msg{
		"to another one":             {From: 1, To: 1, Data: good},
		"from itself":                {From: 0, To: 0, Data: good},
		"from none":                  {From: 7, To: 0, Data: good},
		"from below 0":               {From: -1, To: 0, Data: good},
		"nothing":                    {From: 1, To: 0},
		"spoilt":                     {From: 1, To: 0, Data: spoilt},
		"two records":                {From: 1, To: 0, Data: append(bytes.Clone(good), good...)},
		"more behind":                msg(1, 0, 3, 9, 0, 0, 0, 0, 0, 0),
		"less":                       msg(1, 0, 3, 9, 0, 0, 0, 0),
		"kind 0":                     msg(1, 0, 0, 9),
		"kind 7":                     msg(1, 0, 7, 9, 0, 0),
		"a great term":               msg(1, 0, 3, top+1, 0, 0, 0, 0, 0),
		"a great number":             msg(1, 0, 3, 9, top+1, 0, 0, 0, 0),
		"a great term ahead":         msg(1, 0, 3, 9, 0, top+1, 0, 0, 0),
		"nine entries":               msg(1, 0, append([]any{3, 9, 0, 0, 0, 0, 9}, slices.Repeat([]any{9, 0, "", 0}, 9)...)...),
		"an entry that is none":      msg(1, 0, 3, 9, 0, 0, 0, 0, 1, 9, 1, "", 0),
		"an entry of kind 3":         msg(1, 0, 3, 9, 0, 0, 0, 0, 1, 9, 3, "", 0),
		"an empty one with data":     msg(1, 0, 3, 9, 0, 0, 0, 0, 1, 9, 0, "x", 0),
		"an entry's nodes":           msg(1, 0, 3, 9, 0, 0, 0, 0, 1, 9, 2, "", 2, 1, 1),
		"an entry's term":            msg(1, 0, 3, 9, 0, 0, 0, 0, 1, top+1, 0, "", 0),
		"a vote of 2":                msg(1, 0, 2, 9, 2),
		"took 2":                     msg(1, 0, 4, 9, 2, 0, 0),
		"a piece without a group":    msg(1, 0, 5, 9, 1, 1, 1, 0, 0, 0, "x"),
		"a piece with a great node":  msg(1, 0, 5, 9, 1, 1, 1, 0, 0, 1, 7, "x"),
		"a piece that is too long":   msg(1, 0, 5, 9, 1, 1, 999, 0, 0, 1, 1, strings.Repeat("x", api.Chunk+1)),
		"it asks, but is not of us":  msg(2, 0, 1, 9, 50, 50),
		"it asks, of a term below 0": {From: 2, To: 0, Data: pack(1, 0, 50, 50)},
	} {
		r := open(t, 0, fresh(t), 0, 0, 1)
		sends(t, name, r.Hear(m, 0))
		says(t, name, r, api.Follower, 0, -1)
		if len(r.Nodes()) == 0 {
			t.Error(name, "it stopped")
		}
	}
}

func TestMessagesAtTheirBounds(t *testing.T) {
	r := open(t, 0, fresh(t), 0, 0, 1)
	eight := append([]any{3, 1, 0, 0, 0, top, 8}, slices.Repeat([]any{1, 0, "", 0}, 8)...)
	sends(t, "eight entries", r.Hear(msg(1, 0, eight...), 0), msg(0, 1, 4, 1, 1, 8, top))
	long := strings.Repeat("x", 1<<16)
	sends(t, "long data, and seven nodes", r.Hear(msg(1, 0, 3, 1, 8, 1, top, 0, 2, 1, 1, long, 0, 1, 2, "", 7, 0, 1, 2, 3, 4, 5, 6), 0), msg(0, 1, 4, 1, 1, 10, 0))
	logs(t, "commit", r, 0, 10, 10)
	if len(r.Nodes()) != 7 {
		t.Error(r.Nodes())
	}
	sends(t, "the greatest term", r.Hear(msg(1, 0, 3, top, 10, 1, 0, 0, 1, top, 0, "", 0), 0), msg(0, 1, 4, top, 1, 11, 0))
	r = open(t, 0, fresh(t), 0, 0, 1)
	sends(t, "a piece", r.Hear(msg(1, 0, 5, 1, top, top, api.Chunk, 0, 0, 7, 0, 1, 2, 3, 4, 5, 6, strings.Repeat("x", api.Chunk)), 0), msg(0, 1, 6, 1, top, api.Chunk, 0))
	logs(t, "a snapshot of the greatest number", r, top, top, top)
}

func TestHearAGreaterTerm(t *testing.T) {
	for name, v := range map[string][]any{
		"votes": {2, 8, 1}, "took": {4, 8, 1, 1, 0}, "took it": {6, 8, 0, 0, 0},
	} {
		d := fresh(t)
		r := leader(t, d, 0, 1, 2)
		sends(t, name, r.Hear(msg(2, 0, v...), 0))
		says(t, name, r, api.Follower, 8, -1)
		d.Crash(0)
		j, _ := journal.Open(d, "p", 0)
		if term, vote := j.Term(); term != 8 || vote != -1 {
			t.Error(name, term, vote)
		}
	}
	r := leader(t, fresh(t), 0, 1)
	sends(t, "from a node out of the group", r.Hear(msg(6, 0, 2, 8, 1), 0))
	says(t, "from a node out of the group", r, api.Follower, 8, -1)
}

func TestVotes(t *testing.T) {
	made := func() (*raft.Node, *disk.Disk) {
		d := fresh(t)
		j, _ := journal.Open(d, "p", 0, 1, 2)
		j.SetTerm(5, -1)
		j.Append(api.Entry{Term: 3}, api.Entry{Term: 4})
		return open(t, 0, d, 0, 0), d
	}
	for _, c := range []struct{ term, index, at, yes int }{
		{5, 2, 4, 1}, {5, 3, 4, 1}, {5, 1, 5, 1}, {5, 1, 4, 0}, {5, 9, 3, 0}, {5, 0, 0, 0}, {9, 2, 4, 1}, {9, 1, 4, 0}, {4, 9, 9, 0}, {top, top, top, 1},
	} {
		r, d := made()
		term := max(c.term, 5)
		sends(t, "votes", r.Hear(msg(1, 0, 1, c.term, c.index, c.at), 0), msg(0, 1, 2, term, c.yes))
		d.Crash(0)
		j, _ := journal.Open(d, "p", 0)
		if now, vote := j.Term(); now != term || vote != 2*c.yes-1 {
			t.Error(c, now, vote)
		}
		sends(t, "the same once more", r.Hear(msg(1, 0, 1, c.term, c.index, c.at), 0), msg(0, 1, 2, term, c.yes))
		sends(t, "another one", r.Hear(msg(2, 0, 1, 5, top, top), 0), msg(0, 2, 2, term, yes(term == 5 && c.yes == 0)))
	}
}

func yes(b bool) int {
	if b {
		return 1
	}
	return 0
}

func TestAVoteWaitsAnew(t *testing.T) {
	r := open(t, 0, fresh(t), 0, 0, 1)
	ticks(r, 9)
	r.Hear(msg(1, 0, 1, 1, 0, 0), 4)
	sends(t, "Ticks behind a vote", ticks(r, 13))
	says(t, "it waits", r, api.Follower, 1, -1)
	ticks(r, 1)
	says(t, "it stands", r, api.Candidate, 2, -1)

	r = open(t, 0, fresh(t), 0, 0, 1, 2)
	r.Hear(msg(1, 0, 1, 1, 0, 0), 0)
	ticks(r, 9)
	r.Hear(msg(2, 0, 1, 1, 0, 0), 5)
	ticks(r, 1)
	says(t, "no vote, no new wait", r, api.Candidate, 2, -1)
}

func TestVotesThatCount(t *testing.T) {
	r := open(t, 0, fresh(t), 0, 0, 1, 2, 3, 4)
	ticks(r, 10)
	for name, m := range map[string]api.Msg{
		"a no":                 msg(1, 0, 2, 1, 0),
		"of a lesser term":     msg(1, 0, 2, 0, 1),
		"not of the group":     msg(5, 0, 2, 1, 1),
		"not of the group too": msg(6, 0, 2, 1, 1),
	} {
		sends(t, name, r.Hear(m, 0))
	}
	sends(t, "one", r.Hear(msg(1, 0, 2, 1, 1), 0))
	sends(t, "the same", r.Hear(msg(1, 0, 2, 1, 1), 0))
	says(t, "two of five", r, api.Candidate, 1, -1)
	l := r.Hear(msg(4, 0, 2, 1, 1), 0)
	first := []any{3, 1, 0, 0, 0, 0, 1, 1, 0, "", 0}
	sends(t, "three of five", l, msg(0, 1, first...), msg(0, 2, first...), msg(0, 3, first...), msg(0, 4, first...))
	says(t, "three of five", r, api.Leader, 1, 0)
	logs(t, "three of five", r, 0, 1, 0)
	sends(t, "one more vote", r.Hear(msg(2, 0, 2, 1, 1), 0))
}

func TestAFollowerCountsNoVotes(t *testing.T) {
	r := open(t, 0, fresh(t), 0, 0, 1, 2)
	ticks(r, 10)
	r.Hear(msg(1, 0, 3, 1, 0, 0, 0, 0, 0), 0)
	says(t, "there is a leader", r, api.Follower, 1, 1)
	sends(t, "a vote", r.Hear(msg(2, 0, 2, 1, 1), 0))
	says(t, "a vote", r, api.Follower, 1, 1)
	ticks(r, 10)
	says(t, "it stands anew", r, api.Candidate, 2, -1)
	r.Hear(msg(2, 0, 2, 1, 1), 0)
	says(t, "an old vote", r, api.Candidate, 2, -1)
}

// follower has entries of the terms 1, 1, 2, 3, the first two agreed upon, and term 3.
func follower(t *testing.T) (*raft.Node, *disk.Disk) {
	d := fresh(t)
	r := open(t, 0, d, 0, 0, 1, 2)
	r.Hear(msg(1, 0, 3, 3, 0, 0, 2, 0, 4, 1, 1, "a", 0, 1, 1, "b", 0, 2, 1, "c", 0, 3, 1, "d", 0), 0)
	says(t, "a follower", r, api.Follower, 3, 1)
	logs(t, "a follower", r, 0, 4, 2)
	return r, d
}

func TestEntries(t *testing.T) {
	for name, c := range map[string]struct {
		v            []any
		ok, number   int
		last, commit int
	}{
		"nothing new":                {[]any{3, 3, 4, 3, 2, 7, 0}, 1, 4, 4, 2},
		"commit":                     {[]any{3, 3, 4, 3, 4, 7, 0}, 1, 4, 4, 4},
		"commit beyond":              {[]any{3, 3, 3, 2, 9, 7, 0}, 1, 3, 4, 3},
		"commit below":               {[]any{3, 3, 3, 2, 1, 7, 0}, 1, 3, 4, 2},
		"the same entries":           {[]any{3, 3, 2, 1, 0, 7, 1, 2, 1, "c", 0}, 1, 3, 4, 2},
		"the same, and more":         {[]any{3, 3, 3, 2, 5, 7, 2, 3, 1, "d", 0, 3, 1, "e", 0}, 1, 5, 5, 5},
		"another term":               {[]any{3, 3, 2, 1, 3, 7, 2, 2, 1, "c", 0, 2, 1, "z", 0}, 1, 4, 4, 3},
		"another one, fewer":         {[]any{3, 3, 2, 1, 2, 7, 1, 3, 1, "y", 0}, 1, 3, 3, 2},
		"no such entry":              {[]any{3, 3, 7, 3, 9, 7, 0}, 0, 4, 4, 2},
		"just behind":                {[]any{3, 3, 5, 3, 9, 7, 1, 3, 0, "", 0}, 0, 4, 4, 2},
		"another term ahead":         {[]any{3, 3, 3, 3, 9, 7, 0}, 0, 2, 4, 2},
		"another term at the first":  {[]any{3, 3, 1, 3, 9, 7, 0}, 0, 0, 4, 2},
		"another term at 0":          {[]any{3, 3, 0, 3, 9, 7, 0}, 0, 0, 4, 2},
		"of a greater term":          {[]any{3, 8, 4, 3, 4, 7, 1, 8, 0, "", 0}, 1, 5, 5, 4},
		"of a lesser term":           {[]any{3, 2, 4, 3, 9, 7, 1, 2, 0, "", 0}, 0, 0, 4, 2},
		"another one that is agreed": {[]any{3, 3, 0, 0, 4, 7, 2, 1, 1, "a", 0, 3, 1, "b", 0}, -1, 0, 4, 2},
	} {
		r, d := follower(t)
		l := r.Hear(msg(2, 0, c.v...), 0)
		term := max(3, c.v[1].(int))
		if c.ok < 0 {
			sends(t, name, l)
		} else {
			sends(t, name, l, msg(0, 2, 4, term, c.ok, c.number, 7))
		}
		logs(t, name, r, 0, c.last, c.commit)
		if c.v[1] == 2 {
			says(t, name, r, api.Follower, 3, 1)
		} else {
			says(t, name, r, api.Follower, term, 2)
		}
		d.Crash(0)
		logs(t, name+", written", open(t, 0, d, 0, 0), 0, c.last, 0)
	}
}

func TestEntriesBelowTheBase(t *testing.T) {
	for name, c := range map[string]struct {
		v            []any
		ok, number   int
		last, commit int
	}{
		"few":               {[]any{3, 3, 0, 0, 9, 7, 1, 9, 0, "", 0}, 1, 2, 4, 2},
		"none":              {[]any{3, 3, 1, 9, 9, 7, 0}, 1, 2, 4, 2},
		"up to the base":    {[]any{3, 3, 0, 0, 9, 7, 2, 9, 0, "", 0, 9, 0, "", 0}, 1, 2, 4, 2},
		"beyond":            {[]any{3, 3, 0, 0, 3, 7, 4, 9, 0, "", 0, 9, 0, "", 0, 2, 1, "c", 0, 3, 1, "D", 0}, 1, 4, 4, 3},
		"beyond, another":   {[]any{3, 3, 1, 9, 3, 7, 2, 9, 0, "", 0, 3, 1, "x", 0}, 1, 3, 3, 3},
		"of the base":       {[]any{3, 3, 2, 1, 4, 7, 1, 2, 1, "c", 0}, 1, 3, 4, 3},
		"a base of another": {[]any{3, 3, 2, 2, 4, 7, 0}, 0, 2, 4, 2},
		"behind the base":   {[]any{3, 3, 3, 9, 4, 7, 0}, 0, 2, 4, 2},
	} {
		r, _ := follower(t)
		r.Take()
		want(t, "Compact", r.Compact(2, []byte("s")), api.OK)
		sends(t, name, r.Hear(msg(2, 0, c.v...), 0), msg(0, 2, 4, 3, c.ok, c.number, 7))
		logs(t, name, r, 2, c.last, c.commit)
	}
}

func TestEntriesEndALeader(t *testing.T) {
	r := leader(t, fresh(t), 0, 1, 2)
	r.Hear(msg(1, 0, 4, 1, 1, 1, 0), 0)
	r.Ask(77)
	r.Hear(msg(2, 0, 3, 2, 1, 1, 1, 0, 0), 5)
	says(t, "another leader", r, api.Follower, 2, 2)
	if l := r.Reads(); len(l) != 1 || l[0].Ctx != 77 || l[0].Ok {
		t.Error(l)
	}
	r.Hear(msg(2, 0, 3, 2, 1, 1, 1, 0, 0), 5)
	r.Hear(msg(1, 0, 2, 2, 0), 5)
	if l := r.Reads(); len(l) != 0 {
		t.Error("settled twice", l)
	}
	sends(t, "it waits anew", ticks(r, 14))
	ticks(r, 1)
	says(t, "it stands", r, api.Candidate, 3, -1)
}

func TestTookEntries(t *testing.T) {
	r := leader(t, fresh(t), 0, 1, 2)
	for range 9 {
		r.Propose([]byte("x"))
	}
	logs(t, "ten entries", r, 0, 10, 0)
	for name, m := range map[string]api.Msg{
		"a number above the last one": msg(1, 0, 4, 1, 1, 11, 0),
		"not of the group":            msg(5, 0, 4, 1, 1, 10, 0),
		"of a lesser term":            msg(1, 0, 4, 0, 1, 10, 0),
	} {
		sends(t, name, r.Hear(m, 0))
		logs(t, name, r, 0, 10, 0)
	}
	row := func(n int) (l []any) {
		for range n {
			l = append(l, 1, 1, "x", 0)
		}
		return l
	}
	sends(t, "1: at most eight", r.Hear(msg(2, 0, 4, 1, 0, 1, 0), 0), msg(0, 2, append([]any{3, 1, 1, 1, 0, 0, 8}, row(8)...)...))
	sends(t, "2: the others follow", r.Hear(msg(1, 0, 4, 1, 1, 2, 0), 0), msg(0, 1, append([]any{3, 1, 2, 1, 2, 0, 8}, row(8)...)...))
	logs(t, "2", r, 0, 10, 2)
	sends(t, "1, late", r.Hear(msg(1, 0, 4, 1, 1, 1, 0), 0), msg(0, 1, append([]any{3, 1, 2, 1, 2, 0, 8}, row(8)...)...))
	sends(t, "0 of the third", r.Hear(msg(2, 0, 4, 1, 0, 4, 0), 0), msg(0, 2, append([]any{3, 1, 4, 1, 2, 0, 6}, row(6)...)...))
	sends(t, "0, but not below what it has", r.Hear(msg(1, 0, 4, 1, 0, 0, 0), 0), msg(0, 1, append([]any{3, 1, 2, 1, 2, 0, 8}, row(8)...)...))
	sends(t, "all of it: commit grew", r.Hear(msg(1, 0, 4, 1, 1, 10, 0), 0), msg(0, 1, 3, 1, 10, 1, 10, 0, 0))
	logs(t, "all of it", r, 0, 10, 10)
	sends(t, "once more", r.Hear(msg(1, 0, 4, 1, 1, 10, 0), 0))
	sends(t, "the third: the last one is left", r.Hear(msg(2, 0, 4, 1, 1, 9, 0), 0), msg(0, 2, append([]any{3, 1, 9, 1, 10, 0, 1}, row(1)...)...))
	sends(t, "the third: nothing grew", r.Hear(msg(2, 0, 4, 1, 1, 10, 0), 0))
}

func TestOnlyItsOwnTermCounts(t *testing.T) {
	d := fresh(t)
	j, _ := journal.Open(d, "p", 0, 1, 2)
	j.SetTerm(1, -1)
	j.Append(api.Entry{Term: 1, Kind: 1, Data: []byte("old")})
	r := open(t, 0, d, 0, 0)
	ticks(r, 10)
	l := r.Hear(msg(1, 0, 2, 2, 1), 0)
	sends(t, "a leader", l, msg(0, 1, 3, 2, 1, 1, 0, 0, 1, 2, 0, "", 0), msg(0, 2, 3, 2, 1, 1, 0, 0, 1, 2, 0, "", 0))
	r.Hear(msg(1, 0, 4, 2, 1, 1, 0), 0)
	logs(t, "an entry of an older term", r, 0, 2, 0)
	r.Hear(msg(1, 0, 4, 2, 1, 2, 0), 0)
	logs(t, "one of its own", r, 0, 2, 2)
}

// far is a leader of term 1 of 0, 1, 2 with 3 entries agreed upon, of which 2 are in a snapshot of n bytes.
func far(t *testing.T, n int) *raft.Node {
	r := leader(t, fresh(t), 0, 1, 2)
	r.Propose([]byte("x"))
	r.Propose([]byte("y"))
	r.Hear(msg(1, 0, 4, 1, 1, 3, 0), 0)
	r.Take()
	want(t, "Compact", r.Compact(2, []byte(strings.Repeat("s", n))), api.OK)
	return r
}

func TestPiecesGo(t *testing.T) {
	s := func(n int) string { return strings.Repeat("s", n) }
	r := far(t, 1200)
	back := r.Hear(msg(2, 0, 4, 1, 0, 0, 0), 0)
	sends(t, "node 2 has nothing", back, msg(0, 2, 5, 1, 2, 1, 1200, 0, 0, 3, 0, 1, 2, s(512)))
	for name, m := range map[string]api.Msg{
		"another number":   msg(2, 0, 6, 1, 1, 512, 0),
		"a lesser term":    msg(2, 0, 6, 0, 2, 512, 0),
		"not of the group": msg(4, 0, 6, 1, 2, 512, 0),
	} {
		sends(t, name, r.Hear(m, 0))
	}
	sends(t, "512", r.Hear(msg(2, 0, 6, 1, 2, 512, 0), 0), msg(0, 2, 5, 1, 2, 1, 1200, 512, 0, 3, 0, 1, 2, s(512)))
	sends(t, "1024", r.Hear(msg(2, 0, 6, 1, 2, 1024, 0), 0), msg(0, 2, 5, 1, 2, 1, 1200, 1024, 0, 3, 0, 1, 2, s(176)))
	sends(t, "more than there is", r.Hear(msg(2, 0, 6, 1, 2, 9999, 0), 0), msg(0, 2, 5, 1, 2, 1, 1200, 1200, 0, 3, 0, 1, 2, ""))
	sends(t, "700", r.Hear(msg(2, 0, 6, 1, 2, 700, 0), 0), msg(0, 2, 5, 1, 2, 1, 1200, 700, 0, 3, 0, 1, 2, s(500)))
	sends(t, "all", r.Hear(msg(2, 0, 6, 1, 2, 1200, 0), 0), msg(0, 2, 3, 1, 2, 1, 3, 0, 1, 1, 1, "y", 0))
	sends(t, "all of it", r.Hear(msg(2, 0, 4, 1, 1, 3, 0), 0))
	sends(t, "the pieces again", r.Hear(msg(2, 0, 6, 1, 2, 1200, 0), 0))
	sends(t, "not below what it has", r.Hear(msg(2, 0, 4, 1, 0, 0, 0), 0), msg(0, 2, 3, 1, 3, 1, 3, 0, 0))
	r = far(t, 1200)
	r.Hear(msg(2, 0, 6, 1, 2, 700, 0), 0)
	r.Hear(msg(2, 0, 6, 1, 2, 1200, 0), 0)
	sends(t, "what has come counts", r.Hear(msg(2, 0, 4, 1, 0, 0, 0), 0), msg(0, 2, 3, 1, 2, 1, 3, 0, 1, 1, 1, "y", 0))
	want(t, "Compact", r.Compact(3, []byte(s(600))), api.OK)
	sends(t, "another snapshot begins at 0", r.Hear(msg(2, 0, 4, 1, 0, 2, 0), 0), msg(0, 2, 5, 1, 3, 1, 600, 0, 0, 3, 0, 1, 2, s(512)))
	sends(t, "a snapshot without a byte", far(t, 0).Hear(msg(2, 0, 4, 1, 0, 0, 0), 0), msg(0, 2, 5, 1, 2, 1, 0, 0, 0, 3, 0, 1, 2, ""))
}

func TestPiecesCome(t *testing.T) {
	s := func(n int) string { return strings.Repeat("s", n) }
	piece := func(term, index, size, offset int, data string) api.Msg {
		return msg(2, 0, 5, term, index, 3, size, offset, 7, 2, 0, 2, data)
	}
	took := func(term, index, n int) api.Msg { return msg(0, 2, 6, term, index, n, 7) }
	r, d := follower(t)
	sends(t, "a lesser term", r.Hear(piece(2, 9, 5, 0, "abc"), 0), msg(0, 2, 6, 3, 0, 0, 7))
	says(t, "a lesser term", r, api.Follower, 3, 1)
	sends(t, "not above commit", r.Hear(piece(3, 2, 5, 0, "abc"), 0), took(3, 2, 5))
	says(t, "its leader", r, api.Follower, 3, 2)
	sends(t, "none comes", r.Hear(piece(3, 9, 1200, 5, s(3)), 0), took(3, 9, 0))
	sends(t, "the first", r.Hear(piece(3, 9, 1200, 0, s(512)), 0), took(3, 9, 512))
	sends(t, "another size", r.Hear(piece(3, 9, 1201, 512, s(512)), 0), took(3, 9, 0))
	sends(t, "another number", r.Hear(piece(3, 8, 1200, 512, s(512)), 0), took(3, 8, 0))
	sends(t, "another term", r.Hear(msg(2, 0, 5, 3, 9, 2, 1200, 512, 7, 2, 0, 2, s(512)), 0), took(3, 9, 0))
	sends(t, "another place", r.Hear(piece(3, 9, 1200, 511, s(512)), 0), took(3, 9, 512))
	sends(t, "the second", r.Hear(piece(3, 9, 1200, 512, s(512)), 0), took(3, 9, 1024))
	sends(t, "the second again", r.Hear(piece(3, 9, 1200, 512, s(512)), 0), took(3, 9, 1024))
	sends(t, "beyond the size", r.Hear(piece(3, 9, 1200, 1024, s(177)), 0), took(3, 9, 1024))
	sends(t, "no byte", r.Hear(piece(3, 9, 1200, 1024, ""), 0), took(3, 9, 1024))
	logs(t, "not yet", r, 0, 4, 2)
	sends(t, "a greater term, the last", r.Hear(piece(4, 9, 1200, 1024, s(176)), 0), took(4, 9, 1200))
	logs(t, "whole", r, 9, 9, 9)
	sends(t, "once more", r.Hear(piece(4, 9, 1200, 0, s(512)), 0), took(4, 9, 1200))
	got := r.Take()
	if !got.Has || string(got.Snap) != s(1200) || got.Index != 9 || len(got.Entries) != 0 {
		t.Error(got)
	}
	if !slices.Equal(r.Nodes(), []int{0, 2}) {
		t.Error(r.Nodes())
	}
	d.Crash(0)
	logs(t, "installed", open(t, 0, d, 0, 6), 9, 9, 9)

	r, _ = follower(t)
	r.Hear(piece(3, 9, 1200, 0, s(512)), 0)
	sends(t, "offset 0 begins anew", r.Hear(piece(3, 9, 1200, 0, s(10)), 0), took(3, 9, 10))
	sends(t, "a snapshot of no byte", r.Hear(piece(3, 3, 0, 0, ""), 0), took(3, 3, 0))
	logs(t, "an entry of the same number, another term", r, 3, 3, 3)
	r, _ = follower(t)
	r.Take()
	sends(t, "of an entry", r.Hear(msg(2, 0, 5, 3, 3, 2, 1, 0, 7, 2, 0, 2, "s"), 0), took(3, 3, 1))
	logs(t, "what stands behind stays", r, 3, 4, 3)
	if got := r.Take(); !got.Has || got.Index != 3 || len(got.Entries) != 0 {
		t.Error(got)
	}
	r.Hear(msg(2, 0, 3, 3, 4, 3, 4, 0, 0), 0)
	if got := r.Take(); got.Has || got.Index != 3 || len(got.Entries) != 1 || string(got.Entries[0].Data) != "d" {
		t.Error(got)
	}
}

func TestTheDiskErrs(t *testing.T) {
	for name, f := range map[string]func(r *raft.Node) ([]api.Msg, api.Errno){
		"Tick":        func(r *raft.Node) ([]api.Msg, api.Errno) { return ticks(r, 30), api.ErrDead },
		"Hear a term": func(r *raft.Node) ([]api.Msg, api.Errno) { return r.Hear(msg(1, 0, 2, 9, 1), 0), api.ErrDead },
		"Hear an ask": func(r *raft.Node) ([]api.Msg, api.Errno) { return r.Hear(msg(1, 0, 1, 9, 99, 9), 0), api.ErrDead },
		"Hear entries": func(r *raft.Node) ([]api.Msg, api.Errno) {
			return r.Hear(msg(1, 0, 3, 1, 3, 1, 0, 0, 1, 1, 0, "", 0), 0), api.ErrDead
		},
		"Hear other ones": func(r *raft.Node) ([]api.Msg, api.Errno) {
			return r.Hear(msg(1, 0, 3, 1, 2, 1, 0, 0, 1, 0, 0, "", 0), 0), api.ErrDead
		},
		"Hear a piece": func(r *raft.Node) ([]api.Msg, api.Errno) {
			return r.Hear(msg(1, 0, 5, 1, 9, 1, 1, 0, 0, 1, 1, "s"), 0), api.ErrDead
		},
		"Compact": func(r *raft.Node) ([]api.Msg, api.Errno) { r.Take(); return nil, r.Compact(1, nil) },
	} {
		d := fresh(t)
		r := open(t, 0, d, 0, 0, 1, 2)
		r.Hear(msg(1, 0, 3, 1, 0, 0, 2, 0, 3, 1, 0, "", 0, 1, 0, "", 0, 1, 0, "", 0), 0)
		d.Fuse(0)
		l, err := f(r)
		d.Fuse(-1)
		sends(t, name, l)
		want(t, name, err, api.ErrDead)
		stopped(t, name, r)
	}
	d := fresh(t)
	r := leader(t, d, 0)
	d.Fuse(0)
	n, l, err := r.Propose([]byte("x"))
	want(t, "Propose", err, api.ErrDead)
	if n != 0 || len(l) != 0 {
		t.Error(n, l)
	}
	d.Fuse(-1)
	stopped(t, "Propose", r)
	d = fresh(t)
	r = leader(t, d, 0)
	d.Fuse(0)
	n, l, err = r.Change(0, 1)
	want(t, "Change", err, api.ErrDead)
	if n != 0 || len(l) != 0 {
		t.Error(n, l)
	}
	d.Fuse(-1)
	stopped(t, "Change", r)
}

func stopped(t *testing.T, what string, r *raft.Node) {
	t.Helper()
	says(t, what, r, 0, 0, -1)
	logs(t, what, r, 0, 0, 0)
	sends(t, what, r.Hear(msg(1, 0, 3, 50, 0, 0, 0, 0, 0), 0))
	sends(t, what, ticks(r, 30))
	if got := r.Take(); got.Has || len(got.Snap) != 0 || got.Index != 0 || len(got.Entries) != 0 {
		t.Error(what, got)
	}
	_, l, err := r.Propose(nil)
	sends(t, what, l)
	want(t, what, err, api.ErrDead)
	_, l, err = r.Change()
	sends(t, what, l)
	want(t, what, err, api.ErrDead)
	l, err = r.Ask(1)
	sends(t, what, l)
	want(t, what, err, api.ErrDead)
	want(t, what, r.Compact(99, nil), api.ErrDead)
	if len(r.Reads()) != 0 || len(r.Nodes()) != 0 {
		t.Error(what, "it says something")
	}
}

// P6.4
func TestPropose(t *testing.T) {
	r := open(t, 0, fresh(t), 0, 0, 1, 2)
	if n, l, err := r.Propose(nil); n != 0 || len(l) != 0 || err != api.ErrLead {
		t.Error(n, l, err)
	}
	ticks(r, 10)
	if _, _, err := r.Propose([]byte("x")); err != api.ErrLead {
		t.Error("a candidate", err)
	}
	r = leader(t, fresh(t), 0, 1, 2)
	for _, p := range [][]byte{nil, {}, make([]byte, 65537)} {
		if n, l, err := r.Propose(p); n != 0 || len(l) != 0 || err != api.ErrArg {
			t.Error(n, l, err)
		}
	}
	n, l, err := r.Propose([]byte("x"))
	if n != 2 || err != api.OK {
		t.Error(n, err)
	}
	v := []any{3, 1, 0, 0, 0, 0, 2, 1, 0, "", 0, 1, 1, "x", 0}
	sends(t, "Propose", l, msg(0, 1, v...), msg(0, 2, v...))
	if n, _, err := r.Propose(make([]byte, 65536)); n != 3 || err != api.OK {
		t.Error(n, err)
	}
	r = leader(t, fresh(t), 0)
	r.Propose([]byte("y"))
	logs(t, "alone", r, 0, 2, 2)
}

func TestChange(t *testing.T) {
	r := open(t, 0, fresh(t), 0, 0, 1)
	if n, l, err := r.Change(9); n != 0 || len(l) != 0 || err != api.ErrLead {
		t.Error(n, l, err)
	}
	r = leader(t, fresh(t), 0, 1, 2)
	if n, l, err := r.Change(9); n != 0 || len(l) != 0 || err != api.ErrBusy {
		t.Error("nothing of its term is agreed upon", n, l, err)
	}
	r.Hear(msg(1, 0, 4, 1, 1, 1, 0), 0)
	for _, nodes := range [][]int{nil, {0, 1, 2}, {0}, {0, 1, 3}, {3}, {0, 1, 2, 3, 4}, {2, 1, 0, 3}, {0, 1, 2, 7}, {-1, 0, 1, 2}, {0, 0}, {1, 3}} {
		if n, l, err := r.Change(nodes...); n != 0 || len(l) != 0 || err != api.ErrArg {
			t.Error(nodes, n, err)
		}
	}
	n, l, err := r.Change(0, 1, 2, 4)
	if n != 2 || err != api.OK || !slices.Equal(r.Nodes(), []int{0, 1, 2, 4}) {
		t.Error(n, err, r.Nodes())
	}
	v := []any{1, 2, "", 4, 0, 1, 2, 4}
	sends(t, "Change", l,
		msg(0, 1, append([]any{3, 1, 1, 1, 1, 0, 1}, v...)...),
		msg(0, 2, append([]any{3, 1, 0, 0, 1, 0, 2, 1, 0, "", 0}, v...)...),
		msg(0, 4, append([]any{3, 1, 1, 1, 1, 0, 1}, v...)...))
	if _, _, err := r.Change(9); err != api.ErrBusy {
		t.Error("a Change at a time", err)
	}
	r.Hear(msg(1, 0, 4, 1, 1, 2, 0), 0)
	logs(t, "two of four are not most", r, 0, 2, 1)
	r.Hear(msg(4, 0, 4, 1, 1, 2, 0), 0)
	logs(t, "three of four", r, 0, 2, 2)
	if n, _, err := r.Change(0, 1, 4); n != 3 || err != api.OK {
		t.Error(n, err)
	}
	sends(t, "who was taken out asks", r.Hear(msg(2, 0, 1, 99, 99, 99), 0))
	sends(t, "who was taken out took them", r.Hear(msg(2, 0, 4, 1, 1, 3, 0), 0))
	says(t, "nobody is disturbed", r, api.Leader, 1, 0)
}

func TestALeaderThatIsTakenOut(t *testing.T) {
	r := leader(t, fresh(t), 0, 1, 2)
	r.Hear(msg(1, 0, 4, 1, 1, 1, 0), 0)
	n, _, err := r.Change(1, 2)
	if n != 2 || err != api.OK {
		t.Error(n, err)
	}
	r.Ask(5)
	says(t, "it leads on", r, api.Leader, 1, 0)
	r.Hear(msg(1, 0, 4, 1, 1, 2, 1), 0)
	logs(t, "one of two is not most: it does not count itself", r, 0, 2, 1)
	if l := r.Reads(); len(l) != 0 {
		t.Error("nor its own round", l)
	}
	r.Hear(msg(2, 0, 4, 1, 1, 2, 0), 0)
	logs(t, "both", r, 0, 2, 2)
	says(t, "it steps back", r, api.Follower, 1, -1)
	if l := r.Reads(); len(l) != 1 || l[0].Ctx != 5 || l[0].Ok {
		t.Error(l)
	}
}

// P6.5
func TestAsk(t *testing.T) {
	r := open(t, 0, fresh(t), 0, 0, 1, 2)
	if l, err := r.Ask(1); len(l) != 0 || err != api.ErrLead {
		t.Error(l, err)
	}
	r = leader(t, fresh(t), 0, 1, 2)
	if l, err := r.Ask(1); len(l) != 0 || err != api.ErrBusy {
		t.Error(l, err)
	}
	r.Hear(msg(1, 0, 4, 1, 1, 1, 0), 0)
	l, err := r.Ask(-5)
	want(t, "Ask", err, api.OK)
	sends(t, "Ask", l, msg(0, 1, 3, 1, 1, 1, 1, 1, 0), msg(0, 2, 3, 1, 0, 0, 1, 1, 1, 1, 0, "", 0))
	r.Propose([]byte("x"))
	r.Ask(math.MaxInt)
	if l := r.Reads(); len(l) != 0 {
		t.Error(l)
	}
	r.Hear(msg(2, 0, 4, 1, 0, 0, 1), 0)
	if l := r.Reads(); !slices.Equal(l, []raft.Read{{Ctx: -5, Index: 1, Ok: true}}) {
		t.Error(l)
	}
	r.Hear(msg(2, 0, 4, 1, 0, 0, 1), 0)
	r.Hear(msg(1, 0, 4, 1, 1, 2, 0), 0)
	if l := r.Reads(); len(l) != 0 {
		t.Error("an older round", l)
	}
	r.Ask(3)
	r.Hear(msg(1, 0, 6, 1, 9, 9, 3), 0)
	if l := r.Reads(); !slices.Equal(l, []raft.Read{{Ctx: math.MaxInt, Index: 1, Ok: true}, {Ctx: 3, Index: 2, Ok: true}}) {
		t.Error(l)
	}
	if l := r.Reads(); len(l) != 0 {
		t.Error("once more", l)
	}
	r = leader(t, fresh(t), 0)
	r.Ask(8)
	if l := r.Reads(); !slices.Equal(l, []raft.Read{{Ctx: 8, Index: 1, Ok: true}}) {
		t.Error("alone", l)
	}
}

func TestRoundsBeginAnew(t *testing.T) {
	r := leader(t, fresh(t), 0, 1)
	r.Hear(msg(1, 0, 4, 1, 1, 1, 0), 0)
	r.Ask(1)
	r.Ask(2)
	r.Hear(msg(1, 0, 2, 5, 0), 0)
	r.Reads()
	for range 40 {
		if role, _, _ := r.State(); role == api.Candidate {
			break
		}
		r.Tick(0)
	}
	sends(t, "it leads again", r.Hear(msg(1, 0, 2, 6, 1), 0), msg(0, 1, 3, 6, 1, 1, 1, 0, 1, 6, 0, "", 0))
	r.Hear(msg(1, 0, 4, 6, 1, 2, 2), 0)
	l, _ := r.Ask(3)
	sends(t, "a first round", l, msg(0, 1, 3, 6, 2, 6, 2, 1, 0))
	if l := r.Reads(); !slices.Equal(l, []raft.Read{{Ctx: 3, Index: 2, Ok: true}}) {
		t.Error("a round that was told is at or above it", l)
	}
}

// P6.6
func TestTake(t *testing.T) {
	r, _ := follower(t)
	got := r.Take()
	if got.Has || got.Index != 0 || len(got.Entries) != 2 || string(got.Entries[1].Data) != "b" || got.Entries[1].Term != 1 {
		t.Error(got)
	}
	if got := r.Take(); got.Has || got.Index != 2 || len(got.Entries) != 0 {
		t.Error(got)
	}
	r.Hear(msg(1, 0, 3, 3, 4, 3, 3, 0, 0), 0)
	if got := r.Take(); got.Has || got.Index != 2 || len(got.Entries) != 1 || string(got.Entries[0].Data) != "c" {
		t.Error(got)
	}
}

func TestCompact(t *testing.T) {
	r, d := follower(t)
	want(t, "nothing was taken", r.Compact(1, nil), api.ErrArg)
	r.Take()
	want(t, "not taken", r.Compact(3, nil), api.ErrArg)
	want(t, "the base", r.Compact(0, nil), api.ErrArg)
	want(t, "below", r.Compact(math.MinInt, nil), api.ErrArg)
	want(t, "long data", r.Compact(1, make([]byte, 1<<19+1)), api.ErrArg)
	want(t, "Compact", r.Compact(2, []byte("s")), api.OK)
	logs(t, "Compact", r, 2, 4, 2)
	want(t, "twice", r.Compact(2, []byte("s")), api.ErrArg)
	says(t, "it goes on", r, api.Follower, 3, 1)
	if got := r.Take(); got.Has || got.Index != 2 {
		t.Error("it has that", got)
	}
	d.Crash(0)
	if b, err := keep.Load(d, "p-snap"); err != api.OK || len(b) == 0 {
		t.Error(b, err)
	}
}

// P6.9
func TestNewMemory(t *testing.T) {
	nodes := append(make([]int, 0, 5), 0, 1)
	d := fresh(t)
	r, _ := raft.Open(0, d, "p", 0, nodes...)
	nodes[1] = 9
	if l := r.Nodes(); !slices.Equal(l, []int{0, 1}) || nodes[:3][2] != 0 {
		t.Error(l)
	}
	r.Nodes()[0] = 5
	ticks(r, 10)
	r.Hear(msg(1, 0, 2, 1, 1), 0)
	p := []byte("proposed")
	_, l, _ := r.Propose(p)
	p[0] = 'x'
	clear(l[0].Data)
	m := msg(1, 0, 4, 1, 1, 2, 0)
	was := bytes.Clone(m.Data)
	r.Hear(m, 0)
	if !bytes.Equal(m.Data, was) {
		t.Error("a message changed")
	}
	clear(m.Data)
	got := r.Take()
	if string(got.Entries[1].Data) != "proposed" {
		t.Errorf("%q", got.Entries[1].Data)
	}
	clear(got.Entries[1].Data)
	snap := []byte("snap")
	r.Compact(2, snap)
	snap[0] = 'x'
	r = open(t, 0, d, 0, 3)
	got = r.Take()
	if string(got.Snap) != "snap" || !slices.Equal(r.Nodes(), []int{0, 1}) {
		t.Errorf("%q %v", got.Snap, r.Nodes())
	}
	r = open(t, 0, fresh(t), 0, 0, 1, 2)
	l = ticks(r, 10)
	clear(l[0].Data)
	sends(t, "messages share no memory", l[1:], msg(0, 2, 1, 1, 0, 0))
}

func TestNilNode(t *testing.T) {
	var r *raft.Node
	n, l, err := r.Propose([]byte("x"))
	if n != 0 || len(l) != 0 || err != api.ErrArg {
		t.Error(n, l, err)
	}
	n, l, err = r.Change(0)
	if n != 0 || len(l) != 0 || err != api.ErrArg {
		t.Error(n, l, err)
	}
	l, err = r.Ask(1)
	if len(l) != 0 || err != api.ErrArg {
		t.Error(l, err)
	}
	want(t, "Compact", r.Compact(1, nil), api.ErrArg)
	says(t, "nil", r, 0, 0, 0)
	logs(t, "nil", r, 0, 0, 0)
	if len(r.Nodes()) != 0 || len(r.Reads()) != 0 || len(r.Tick(0)) != 0 || len(r.Hear(msg(1, 0, 2, 1, 1), 0)) != 0 {
		t.Error("a nil Node says something")
	}
	if got := r.Take(); got.Has || got.Index != 0 || len(got.Entries) != 0 || len(got.Snap) != 0 {
		t.Error(got)
	}
}
