package raft

import (
	"satrapy/api"
)

func (r *Node) hearAsks(from int, w message, draw int) {
	term, vote := r.Term()
	yes := w.term == term && (vote == nobody || vote == from) && r.asNew(w)
	if yes {
		if !r.setTerm(term, from) {
			return
		}
		r.waitAnew(draw)
	}
	r.send(from, message{kind: votes, yes: yes})
}

// asNew tells whether the asker's last entry is as new as its own.
func (r *Node) asNew(w message) bool {
	index, at := r.Last()
	return w.at > at || w.at == at && w.index >= index
}

// heed takes the one that a message of a leader comes from for that.
func (r *Node) heed(from, draw int) {
	if r.role != api.Follower {
		r.stepBack()
	}
	r.leader = from
	r.waitAnew(draw)
}

func (r *Node) hearEntries(from int, w message, draw int) {
	took := message{kind: tookEntries, round: w.round}
	if w.term < r.term() {
		r.send(from, took)
		return
	}
	r.heed(from, draw)
	base, baseTerm := r.Base()
	if w.index < base {
		pass := base - w.index
		if len(w.entries) < pass {
			took.yes, took.index = true, base
			r.send(from, took)
			return
		}
		w.index, w.at, w.entries = base, baseTerm, w.entries[pass:]
	}
	if at, ok := r.TermAt(w.index); !ok || at != w.at {
		last, _ := r.Last()
		took.index = max(min(last, w.index-1), base)
		r.send(from, took)
		return
	}
	if !r.lay(w) {
		return
	}
	end := w.index + len(w.entries)
	r.commit = max(r.commit, min(w.commit, end))
	took.yes, took.index = true, end
	r.send(from, took)
}

// lay writes down what it does not have of a leader's entries; false: nothing is to be answered.
func (r *Node) lay(w message) bool {
	for i, e := range w.entries {
		index := w.index + 1 + i
		if at, ok := r.TermAt(index); ok && at == e.Term {
			continue
		}
		return index > r.commit && r.wrote(r.Cut(index)) && r.wrote(r.Append(w.entries[i:]...))
	}
	return true
}

func (r *Node) hearPiece(from int, w message, draw int) {
	took := message{kind: tookPiece, round: w.round}
	if w.term < r.term() {
		r.send(from, took)
		return
	}
	r.heed(from, draw)
	took.index = w.index
	if w.index <= r.commit {
		took.offset = w.size
		r.send(from, took)
		return
	}
	if w.offset == 0 {
		r.coming = &snapshot{index: w.index, term: w.at, size: w.size, nodes: w.nodes}
	}
	if r.coming.is(w) {
		if !r.takePiece(w, &took) {
			return
		}
	}
	r.send(from, took)
}

// is tells whether a piece is of the snapshot that comes.
func (s *snapshot) is(w message) bool {
	return s != nil && s.index == w.index && s.term == w.at && s.size == w.size
}

// takePiece lays a piece behind the others, if that is its place; false: the node stopped.
func (r *Node) takePiece(w message, took *message) bool {
	s := r.coming
	if w.offset == len(s.data) && len(w.piece) <= s.size-len(s.data) {
		s.data = append(s.data, w.piece...)
		if len(s.data) == s.size {
			if !r.wrote(r.Install(s.index, s.term, s.nodes, s.data)) {
				return false
			}
			r.commit, r.coming = s.index, nil
		}
	}
	took.offset = len(s.data)
	return true
}
