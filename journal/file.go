package journal

import (
	"slices"

	"satrapy/api"
	"satrapy/frame"
	"satrapy/keep"
	"satrapy/octet"
)

// What the records of the log begin with.
const (
	tagBase  = 1
	tagTerm  = 2
	tagEntry = 3
	tagCut   = 4
)

const onTheWay = "~"

func (j *Journal) snapFile() string { return j.prefix + "-snap" }

func (j *Journal) logFile() string { return j.prefix + "-log" }

func (b base) layHead(w *octet.Writer) {
	w.Nums(b.index, b.term, len(b.nodes))
	w.Nums(b.nodes...)
}

func snapRow(b base) []byte {
	var w octet.Writer
	b.layHead(&w)
	w.Bytes(b.data)
	return w.Out()
}

func baseRow(b base) []byte {
	var w octet.Writer
	w.Raw(tagBase)
	b.layHead(&w)
	return w.Out()
}

func termRow(term, vote int) []byte {
	var w octet.Writer
	w.Raw(tagTerm)
	w.Nums(term, vote+1)
	return w.Out()
}

func entryRow(index int, e api.Entry) []byte {
	var w octet.Writer
	w.Raw(tagEntry)
	w.Nums(index, e.Term, e.Kind)
	w.Bytes(e.Data)
	w.Nums(len(e.Nodes))
	w.Nums(e.Nodes...)
	return w.Out()
}

func cutRow(from int) []byte {
	var w octet.Writer
	w.Raw(tagCut)
	w.Nums(from)
	return w.Out()
}

// lay writes rows down behind the log; the journal dies of an error.
func (j *Journal) lay(rows ...[]byte) api.Errno {
	records, err := encodeAll(rows)
	if err != api.OK {
		return j.die(err)
	}
	if err := j.disk.Append(j.logFile(), records...); err != api.OK {
		return j.die(err)
	}
	if err := j.disk.Sync(j.logFile()); err != api.OK {
		return j.die(err)
	}
	return api.OK
}

// rewrite writes the log anew: what it was stays until all of it is there.
func (j *Journal) rewrite() api.Errno {
	rows := [][]byte{baseRow(j.base), termRow(j.current, j.vote)}
	for i, e := range j.entries {
		rows = append(rows, entryRow(j.index+1+i, e))
	}
	records, err := encodeAll(rows)
	if err != api.OK {
		return j.die(err)
	}
	way := j.logFile() + onTheWay
	if err := j.disk.Remove(way); err != api.OK && err != api.ErrNone {
		return j.die(err)
	}
	if err := j.disk.Append(way, records...); err != api.OK {
		return j.die(err)
	}
	if err := j.disk.Sync(way); err != api.OK {
		return j.die(err)
	}
	if err := j.disk.Rename(way, j.logFile()); err != api.OK {
		return j.die(err)
	}
	return api.OK
}

func encodeAll(rows [][]byte) ([][]byte, api.Errno) {
	var records [][]byte
	for _, row := range rows {
		b, err := frame.Encode(row)
		if err != api.OK {
			return nil, err
		}
		records = append(records, b)
	}
	return records, api.OK
}

// sweep removes what an earlier one left behind on the way.
func (j *Journal) sweep() api.Errno {
	names := j.disk.List()
	for _, name := range []string{j.logFile() + onTheWay, j.snapFile() + onTheWay} {
		if !slices.Contains(names, name) {
			continue
		}
		if err := j.disk.Remove(name); err != api.OK {
			return err
		}
	}
	return api.OK
}

// loadSnap reads the snapshot; without one it is a base of nothing.
func (j *Journal) loadSnap() (base, api.Errno) {
	b, err := keep.Load(j.disk, j.snapFile())
	if err == api.ErrNone {
		return base{}, api.OK
	}
	if err != api.OK {
		return base{}, err
	}
	r := octet.NewReader(b)
	snap := takeHead(r)
	snap.data = r.Bytes()
	if !r.Whole() || snap.index < 1 {
		return base{}, api.ErrForm
	}
	return snap, api.OK
}

// loadLog takes the log's records in; how many bytes the whole ones have, 0 without a log, and whether
// something stands behind them.
func (j *Journal) loadLog() (whole int, torn bool, err api.Errno) {
	b, err := j.disk.Read(j.logFile())
	if err == api.ErrNone {
		return 0, false, api.OK
	}
	rows, whole := frame.Scan(b)
	if len(rows) == 0 || !j.replayBase(rows[0]) {
		return 0, false, api.ErrForm
	}
	for _, row := range rows[1:] {
		if !j.replay(row) {
			return 0, false, api.ErrForm
		}
	}
	return whole, whole < len(b), api.OK
}

// cutTail cuts off what stands behind the last whole record.
func (j *Journal) cutTail(whole int) api.Errno {
	if err := j.disk.Truncate(j.logFile(), whole); err != api.OK {
		return err
	}
	return j.disk.Sync(j.logFile())
}

func (j *Journal) replayBase(row []byte) bool {
	r := octet.NewReader(row)
	if tag(r) != tagBase {
		return false
	}
	j.base = takeHead(r)
	return r.Whole()
}

// replay does once more what a record says was done; false: it may not have been.
func (j *Journal) replay(row []byte) bool {
	r := octet.NewReader(row)
	switch tag(r) {
	case tagTerm:
		j.replayTerm(r)
	case tagEntry:
		j.replayEntry(r)
	case tagCut:
		j.replayCut(r)
	default:
		return false
	}
	return r.Whole()
}

func (j *Journal) replayTerm(r *octet.Reader) {
	var term, vote int
	r.Nums(&term, &vote)
	if !r.Good() || !j.mayTerm(term, vote-1) {
		r.Bad()
		return
	}
	j.current, j.vote = term, vote-1
}

func (j *Journal) replayEntry(r *octet.Reader) {
	var index int
	var e api.Entry
	r.Nums(&index, &e.Term, &e.Kind)
	e.Data = r.Bytes()
	e.Nodes = takeNodes(r)
	if !r.Good() || index != j.last()+1 || index > maxNumber || isNoEntry(e) {
		r.Bad()
		return
	}
	j.push(e)
}

func (j *Journal) replayCut(r *octet.Reader) {
	from := r.Num()
	if !r.Good() || from <= j.index || from > j.last()+1 {
		r.Bad()
		return
	}
	j.cut(from)
}

// tag is a record's first byte, 0 without one.
func tag(r *octet.Reader) byte {
	b := r.Raw(1)
	if len(b) == 0 {
		return 0
	}
	return b[0]
}

// takeHead takes a base's number, term and group.
func takeHead(r *octet.Reader) base {
	var b base
	r.Nums(&b.index, &b.term)
	b.nodes = takeNodes(r)
	if b.index > maxNumber || b.term > maxNumber || !isGroup(b.nodes) {
		r.Bad()
	}
	return b
}

func takeNodes(r *octet.Reader) []int {
	n := r.Num()
	if n > api.MaxNodes {
		r.Bad()
		return nil
	}
	var nodes []int
	for range n {
		nodes = append(nodes, r.Num())
	}
	return nodes
}
