package econ

import (
	"maps"
	"slices"

	"satrapy/api"
	"satrapy/octet"
	"satrapy/op"
	"satrapy/vault"
)

const (
	maxClient = 1 << 20
	maxSeq    = 1 << 40
)

// Encode is it as bytes.
func (e *Econ) Encode() []byte {
	if e == nil {
		return nil
	}
	var w octet.Writer
	w.Nums(len(e.vaults))
	for _, key := range e.Keys() {
		w.Bytes([]byte(key), e.vaults[key].Encode())
	}
	w.Nums(len(e.sessions))
	for _, client := range slices.Sorted(maps.Keys(e.sessions)) {
		s := e.sessions[client]
		reply, _ := op.EncodeReply(s.reply)
		w.Nums(client, s.seq)
		w.Bytes(reply)
	}
	w.Nums(len(e.transits))
	for _, t := range e.Transits() {
		w.Nums(t.Client, t.Seq)
		w.Bytes([]byte(t.At.Key), []byte(t.At.Who), []byte(t.To.Key), []byte(t.To.Who))
		w.Nums(t.Item, t.Count)
	}
	w.Nums(len(e.arrived))
	for _, n := range slices.SortedFunc(maps.Keys(e.arrived), compare) {
		w.Nums(n.client, n.seq)
	}
	return w.Out()
}

// Decode is the way back.
func Decode(b []byte) (*Econ, api.Errno) {
	e := New()
	r := octet.NewReader(b)
	e.takeVaults(r)
	e.takeSessions(r)
	e.takeTransits(r)
	e.takeArrived(r)
	if !r.Whole() {
		return nil, api.ErrForm
	}
	return e, api.OK
}

func (e *Econ) takeVaults(r *octet.Reader) {
	ahead := ""
	for n := r.Num(); n > 0 && r.Good(); n-- {
		key := string(r.Bytes())
		v, err := vault.Decode(r.Bytes())
		if err != api.OK || key <= ahead || len(key) > api.MaxKey || isNone(v) {
			r.Bad()
			return
		}
		e.vaults[key] = v
		ahead = key
	}
}

func (e *Econ) takeSessions(r *octet.Reader) {
	ahead := 0
	for n := r.Num(); n > 0 && r.Good(); n-- {
		at := takeNumber(r)
		reply, err := op.DecodeReply(r.Bytes())
		if err != api.OK || at.client <= ahead {
			r.Bad()
			return
		}
		e.sessions[at.client] = session{at.seq, reply}
		ahead = at.client
	}
}

func (e *Econ) takeTransits(r *octet.Reader) {
	var ahead number
	for n := r.Num(); n > 0 && r.Good(); n-- {
		at := takeNumber(r)
		t := api.Transit{Client: at.client, Seq: at.seq}
		for _, s := range []*string{&t.At.Key, &t.At.Who, &t.To.Key, &t.To.Who} {
			*s = string(r.Bytes())
		}
		r.Nums(&t.Item, &t.Count)
		if !maySend(t) || compare(ahead, at) >= 0 {
			r.Bad()
			return
		}
		e.transits[at] = t
		ahead = at
	}
}

func (e *Econ) takeArrived(r *octet.Reader) {
	var ahead number
	for n := r.Num(); n > 0 && r.Good(); n-- {
		at := takeNumber(r)
		if compare(ahead, at) >= 0 {
			r.Bad()
			return
		}
		e.arrived[at] = struct{}{}
		ahead = at
	}
}

// takeNumber takes a Client and a Seq that may be.
func takeNumber(r *octet.Reader) number {
	var n number
	r.Nums(&n.client, &n.seq)
	if n.client < 1 || n.client > maxClient || n.seq < 1 || n.seq > maxSeq {
		r.Bad()
	}
	return n
}

func maySend(t api.Transit) bool {
	return op.May(api.Op{Kind: api.OpSend, Client: t.Client, Seq: t.Seq, At: t.At, To: t.To, Item: t.Item, Count: t.Count})
}
