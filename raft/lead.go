package raft

import (
	"slices"

	"satrapy/api"
)

// timeUp is what a node does when it waited long enough.
func (r *Node) timeUp(draw int) {
	switch {
	case r.role == api.Leader:
		r.wait = api.Heartbeat
		r.sendAll()
	case !r.isOf(r.id):
		r.waitAnew(draw)
	default:
		r.stand(draw)
	}
}

// stand makes it a candidate of the next term.
func (r *Node) stand(draw int) {
	if !r.setTerm(r.term()+1, r.id) {
		return
	}
	r.role, r.leader = api.Candidate, nobody
	r.voted = [api.MaxNodes]bool{}
	r.voted[r.id] = true
	r.waitAnew(draw)
	if r.most(r.votedFor) {
		r.lead()
		return
	}
	index, at := r.Last()
	for _, n := range r.others() {
		r.send(n, message{kind: asksVotes, index: index, at: at})
	}
}

func (r *Node) votedFor(node int) bool { return r.voted[node] }

func (r *Node) hearVotes(from int, w message) {
	if w.term != r.term() || !w.yes || r.role != api.Candidate || !r.isOf(from) {
		return
	}
	r.voted[from] = true
	if r.most(r.votedFor) {
		r.lead()
	}
}

func (r *Node) lead() {
	last, _ := r.Last()
	r.role, r.leader = api.Leader, r.id
	for i := range r.peers {
		r.peers[i] = peer{next: last + 1}
	}
	r.round = 0
	if _, err := r.layOwn(api.Entry{Kind: api.EntryEmpty}); err != api.OK {
		return
	}
	r.wait = api.Heartbeat
	r.spread()
}

// layOwn writes an entry of its own term down: its number.
func (r *Node) layOwn(e api.Entry) (int, api.Errno) {
	e.Term = r.term()
	if err := r.Append(e); !r.wrote(err) {
		return 0, err
	}
	last, _ := r.Last()
	return last, api.OK
}

// spread is what comes behind an entry that was laid.
func (r *Node) spread() {
	r.count()
	r.sendAll()
}

// count finds what is agreed upon by now, and tells whether that is more.
func (r *Node) count() bool {
	for i := r.mostHave(); i > r.commit; i-- {
		if term, _ := r.TermAt(i); term != r.term() {
			continue
		}
		r.commit = i
		r.leaveIfOut()
		return true
	}
	return false
}

// mostHave is the greatest number up to which most of the group have entries.
func (r *Node) mostHave() int {
	last, _ := r.Last()
	var have []int
	for _, n := range r.Nodes() {
		if n == r.id {
			have = append(have, last)
		} else {
			have = append(have, r.peers[n].match)
		}
	}
	slices.Sort(have)
	return have[(len(have)-1)/2]
}

// leaveIfOut steps back, if it is agreed upon that it is not of the group any more.
func (r *Node) leaveIfOut() {
	if _, at := r.Journal.Nodes(); at <= r.commit && !r.isOf(r.id) {
		r.stepBack()
		r.leader = nobody
	}
}

func (r *Node) stepBack() {
	r.role = api.Follower
	for _, q := range r.asked {
		r.reads = append(r.reads, Read{Ctx: q.ctx, Index: q.index})
	}
	r.asked = nil
	for i := range r.peers {
		r.peers[i].offset = 0
	}
}

// settle answers the questions of whose round most of the group have heard.
func (r *Node) settle() {
	var rest []question
	for _, q := range r.asked {
		if r.most(r.heardOf(q.round)) {
			r.reads = append(r.reads, Read{Ctx: q.ctx, Index: q.index, Ok: true})
		} else {
			rest = append(rest, q)
		}
	}
	r.asked = rest
}

func (r *Node) heardOf(round int) func(node int) bool {
	return func(node int) bool { return node == r.id || r.peers[node].round >= round }
}

func (r *Node) hearTookEntries(from int, w message) {
	last, _ := r.Last()
	if w.term != r.term() || r.role != api.Leader || !r.isOther(from) || w.index > last {
		return
	}
	p := &r.peers[from]
	p.round = max(p.round, w.round)
	if w.yes {
		p.match = max(p.match, w.index)
		p.next = max(p.next, w.index+1)
		if r.count() || p.next <= last {
			r.sendTo(from)
		}
	} else {
		p.next = max(w.index, p.match) + 1
		r.sendTo(from)
	}
	r.settle()
}

func (r *Node) hearTookPiece(from int, w message) {
	if w.term != r.term() || r.role != api.Leader || !r.isOther(from) {
		return
	}
	p := &r.peers[from]
	p.round = max(p.round, w.round)
	if base, _ := r.Base(); w.index == base {
		r.pieceCame(from, w)
	}
	r.settle()
}

func (r *Node) pieceCame(from int, w message) {
	p := &r.peers[from]
	data, _ := r.Snapshot()
	if w.offset != len(data) {
		p.offset = min(w.offset, len(data))
		r.sendTo(from)
		return
	}
	p.match = max(p.match, w.index)
	p.next = max(p.next, w.index+1)
	p.offset = 0
	if last, _ := r.Last(); p.next <= last {
		r.sendTo(from)
	}
}

func (r *Node) sendAll() {
	for _, n := range r.others() {
		r.sendTo(n)
	}
}

// sendTo sends a node what it lacks: entries, or a piece of the snapshot that stands for them.
func (r *Node) sendTo(to int) {
	p := r.peers[to]
	base, baseTerm := r.Base()
	if p.next > base {
		last, _ := r.Last()
		at, _ := r.TermAt(p.next - 1)
		l := r.entriesOf(p.next, min(last, p.next+api.Batch-1))
		r.send(to, message{kind: entries, index: p.next - 1, at: at, commit: r.commit, round: r.round, entries: l})
		return
	}
	data, nodes := r.Snapshot()
	offset := min(p.offset, len(data))
	end := min(offset+api.Chunk, len(data))
	r.send(to, message{kind: piece, index: base, at: baseTerm, size: len(data), offset: offset, round: r.round, nodes: nodes, piece: data[offset:end]})
}

// send lays a message of its term for this call to answer.
func (r *Node) send(to int, m message) {
	m.term = r.term()
	r.out = append(r.out, api.Msg{From: r.id, To: to, Data: encode(m)})
}

// sent is what this call sends.
func (r *Node) sent() []api.Msg {
	l := r.out
	r.out = nil
	return l
}
