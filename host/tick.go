package host

import (
	"satrapy/api"
	"satrapy/source"
	"satrapy/wire"
	"satrapy/zone"
)

// again is what is done, and sent, time and again.
func (h *Host) again(send post) {
	under := h.underWay()
	h.toSeats(send, wire.Word{Kind: wire.Pull, Index: h.m.Version})
	h.settle(send)
	if h.dead || !h.hasLease() {
		return
	}
	h.carry(under, send)
	h.moveOn(send)
}

// underWay is what is under way by now, by zones.
func (h *Host) underWay() map[int][]api.Transit {
	all := map[int][]api.Transit{}
	for id, z := range h.zones {
		all[id] = z.Econ().Transits()
	}
	return all
}

// carry brings what is under way to where it goes.
func (h *Host) carry(under map[int][]api.Transit, send post) {
	for _, id := range h.ids() {
		z := h.zones[id]
		if z.Head().State != api.Serving {
			continue
		}
		for _, t := range under[id] {
			h.carryOne(z, t, send)
			if h.dead {
				return
			}
		}
	}
}

func (h *Host) carryOne(z *zone.Zone, t api.Transit, send post) {
	arrive := api.Op{Kind: api.OpArrive, Client: t.Client, Seq: t.Seq, At: t.To, Item: t.Item, Count: t.Count}
	if owner := h.owner(t.To.Key); owner != h.id {
		send(owner, wire.Word{Kind: wire.Call, Op: arrive})
		return
	}
	there := h.serving(t.To.Key)
	if there == nil {
		return
	}
	if reply, err := h.do(there, arrive); err == api.OK && reply.Err == api.OK {
		h.do(z, doneOf(t))
	}
}

// doneOf tells the zone that something went from that it has arrived.
func doneOf(t api.Transit) api.Op {
	return api.Op{Kind: api.OpDone, Client: t.Client, Seq: t.Seq, At: t.At}
}

// moveOn moves the zones that go.
func (h *Host) moveOn(send post) {
	for _, m := range h.m.Zones {
		if !h.goes(m) {
			continue
		}
		h.moveOne(m, h.zones[m.ID], send)
		if h.dead {
			return
		}
	}
}

// goes tells whether a zone of its map moves from here, and is here.
func (h *Host) goes(m api.Zone) bool {
	if m.Pend != api.DirMove || m.Owner != h.id {
		return false
	}
	head := h.zones[m.ID].Head()
	return isOwn(head) && head.Epoch == m.Epoch
}

// isOwn tells whether a zone is there, and not one that is Coming.
func isOwn(head zone.Head) bool { return head.State == api.Serving || head.State == api.Frozen }

func (h *Host) moveOne(m api.Zone, z *zone.Zone, send post) {
	s := h.sources[m.ID]
	if s == nil || s.Epoch() != m.Epoch+1 {
		s = source.New(z, m.Epoch+1)
		h.sources[m.ID] = s
	}
	if lag := s.Lag(); z.Head().State == api.Serving && lag >= 0 && lag <= 2 {
		head := z.Head()
		head.State = api.Frozen
		if !h.fine(z.Set(head)) {
			return
		}
	}
	if z.Head().State == api.Frozen && s.Lag() == 0 {
		h.askDone(send, m)
		return
	}
	if w, ok := s.Next(); ok {
		send(m.To, w)
	}
}
