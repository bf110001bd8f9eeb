package host

import (
	"slices"

	"satrapy/api"
	"satrapy/target"
	"satrapy/wire"
	"satrapy/zone"
)

// hearings has, by Kinds, what is done to a word; nil: nothing.
func hearings() [11]func(h *Host, from int, w wire.Word, send post) {
	return [11]func(h *Host, from int, w wire.Word, send post){
		wire.Tell:    (*Host).hearTell,
		wire.Call:    (*Host).hearCall,
		wire.Answer:  (*Host).hearAnswer,
		wire.Copy:    (*Host).hearCopy,
		wire.Copied:  (*Host).hearCopied,
		wire.Ship:    (*Host).hearCopy,
		wire.Shipped: (*Host).hearCopied,
	}
}

func (h *Host) hearTell(_ int, w wire.Word, send post) {
	version := w.Map.Version
	if version < h.m.Version || version < h.floor {
		return
	}
	h.heard = 0
	if version > h.m.Version {
		h.m = w.Map
		h.settle(send)
	}
}

func (h *Host) hearCall(from int, w wire.Word, send post) {
	answer := wire.Word{Kind: wire.Answer, Op: api.Op{Kind: w.Op.Kind, Client: w.Op.Client, Seq: w.Op.Seq}}
	key := w.Op.At.Key
	z := h.serving(key)
	switch {
	case !h.hasLease():
		answer.Err = api.ErrLease
	case z == nil:
		answer.Err = api.ErrMoved
		if owner := h.owner(key); owner != h.id {
			answer.Host = owner
		}
	default:
		answer.Reply, answer.Err = h.do(z, w.Op)
		if answer.Err == api.OK {
			h.load.Hit(z.Head().ID, key)
		}
	}
	send(from, answer)
}

func (h *Host) hearAnswer(from int, w wire.Word, _ post) {
	if !h.hasLease() || w.Op.Kind != api.OpArrive || !isHost(from) || w.Err != api.OK || w.Reply.Err != api.OK {
		return
	}
	for _, id := range h.ids() {
		z := h.zones[id]
		if z.Head().State != api.Serving {
			continue
		}
		if t, ok := transit(z, w.Op.Client, w.Op.Seq); ok {
			h.do(z, doneOf(t))
			return
		}
	}
}

// transit is what is under way from a zone of a Client and a Seq.
func transit(z *zone.Zone, client, seq int) (api.Transit, bool) {
	l := z.Econ().Transits()
	at := slices.IndexFunc(l, func(t api.Transit) bool { return t.Client == client && t.Seq == seq })
	if at < 0 {
		return api.Transit{}, false
	}
	return l[at], true
}

// hearCopy takes a word of a zone that comes: a Copy, or a Ship.
func (h *Host) hearCopy(from int, w wire.Word, send post) {
	if !h.comes(w.Zone, w.Epoch) || isOwn(h.zones[w.Zone].Head()) {
		return
	}
	t := h.targets[w.Zone]
	if t == nil {
		t = target.New(h.disk)
		h.targets[w.Zone] = t
	}
	z, back, says, err := t.Hear(w, h.zones[w.Zone])
	if !h.fine(err) {
		return
	}
	if z != nil {
		h.zones[w.Zone] = z
	}
	if says {
		send(from, back)
	}
}

// comes tells whether by its map a zone moves here, and will have that Epoch.
func (h *Host) comes(id, epoch int) bool {
	m, has := h.mapZone(id)
	return has && m.Pend == api.DirMove && m.To == h.id && epoch == m.Epoch+1
}

// hearCopied takes what is told of a zone that goes: a Copied, or a Shipped.
func (h *Host) hearCopied(from int, w wire.Word, send post) {
	s := h.sources[w.Zone]
	if s == nil {
		return
	}
	s.Hear(w)
	if next, ok := s.Next(); ok {
		send(from, next)
	}
}
