package raft

import (
	"satrapy/api"
	"satrapy/frame"
	"satrapy/octet"
)

// Kinds of messages.
const (
	asksVotes   = 1
	votes       = 2
	entries     = 3
	tookEntries = 4
	piece       = 5
	tookPiece   = 6
)

// message is what nodes say; a kind has what the document names for it.
type message struct {
	kind, term int
	yes        bool
	index      int // a number: the last one, the one ahead, a snapshot's
	at         int // that one's term
	commit     int
	round      int
	size       int
	offset     int // of a piece; of took it: how many bytes there are
	entries    []api.Entry
	nodes      []int
	piece      []byte
}

func encode(m message) []byte {
	var w octet.Writer
	w.Nums(m.kind, m.term)
	switch m.kind {
	case asksVotes:
		w.Nums(m.index, m.at)
	case votes:
		w.Nums(flag(m.yes))
	case entries:
		w.Nums(m.index, m.at, m.commit, m.round, len(m.entries))
		for _, e := range m.entries {
			w.Nums(e.Term, e.Kind)
			w.Bytes(e.Data)
			layNodes(&w, e.Nodes)
		}
	case tookEntries:
		w.Nums(flag(m.yes), m.index, m.round)
	case piece:
		w.Nums(m.index, m.at, m.size, m.offset, m.round)
		layNodes(&w, m.nodes)
		w.Bytes(m.piece)
	case tookPiece:
		w.Nums(m.index, m.offset, m.round)
	}
	b, _ := frame.Encode(w.Out()) // the greatest one has far less than MaxFrame
	return b
}

func decode(b []byte) (message, bool) {
	p, err := frame.One(b)
	if err != api.OK {
		return message{}, false
	}
	var m message
	r := octet.NewReader(p)
	takeNums(r, &m.kind, &m.term)
	switch m.kind {
	case asksVotes:
		takeNums(r, &m.index, &m.at)
	case votes:
		m.yes = takeFlag(r)
	case entries:
		takeNums(r, &m.index, &m.at, &m.commit, &m.round)
		m.entries = takeEntries(r)
	case tookEntries:
		m.yes = takeFlag(r)
		takeNums(r, &m.index, &m.round)
	case piece:
		takeNums(r, &m.index, &m.at, &m.size, &m.offset, &m.round)
		m.nodes = takeNodes(r)
		m.piece = r.Bytes()
		if !isGroup(m.nodes) || len(m.piece) > api.Chunk {
			r.Bad()
		}
	case tookPiece:
		takeNums(r, &m.index, &m.offset, &m.round)
	default:
		r.Bad()
	}
	return m, r.Whole()
}

func flag(yes bool) int {
	if yes {
		return 1
	}
	return 0
}

func layNodes(w *octet.Writer, nodes []int) {
	w.Nums(len(nodes))
	w.Nums(nodes...)
}

func takeNums(r *octet.Reader, to ...*int) {
	r.Nums(to...)
	for _, n := range to {
		if *n > maxNumber {
			r.Bad()
		}
	}
}

func takeFlag(r *octet.Reader) bool {
	n := r.Num()
	if n > 1 {
		r.Bad()
	}
	return n == 1
}

func takeEntries(r *octet.Reader) []api.Entry {
	n := r.Num()
	if n > api.Batch {
		r.Bad()
		return nil
	}
	var l []api.Entry
	for range n {
		var e api.Entry
		r.Nums(&e.Term, &e.Kind)
		e.Data = r.Bytes()
		e.Nodes = takeNodes(r)
		if !isEntry(e) {
			r.Bad()
		}
		l = append(l, e)
	}
	return l
}

func takeNodes(r *octet.Reader) []int {
	n := r.Num()
	if n > api.MaxNodes {
		r.Bad()
		return nil
	}
	var nodes []int
	for range n {
		nodes = append(nodes, r.Num())
	}
	return nodes
}

func isEntry(e api.Entry) bool {
	if e.Term < 0 || e.Term > maxNumber {
		return false
	}
	switch e.Kind {
	case api.EntryEmpty:
		return len(e.Data) == 0 && len(e.Nodes) == 0
	case api.EntryData:
		return len(e.Data) >= 1 && len(e.Data) <= maxData && len(e.Nodes) == 0
	case api.EntryConfig:
		return len(e.Data) == 0 && isGroup(e.Nodes)
	}
	return false
}
