package host

import (
	"maps"

	"satrapy/api"
	"satrapy/econ"
	"satrapy/keep"
	"satrapy/octet"
	"satrapy/source"
	"satrapy/span"
	"satrapy/target"
	"satrapy/zone"
)

// settle makes the zones here what its map says.
func (h *Host) settle(send post) {
	if h.m.Version == 0 {
		return
	}
	h.makeFirst()
	if h.dead || !h.raiseFloor() {
		return
	}
	for at, m := range h.m.Zones {
		if m.Owner != h.id || h.zones[m.ID] == nil {
			continue
		}
		h.settleOne(at, send)
		if h.dead {
			return
		}
	}
	h.dropRest()
	h.forgetRest()
}

// makeFirst makes the first zone of all, which no other host ever had.
func (h *Host) makeFirst() {
	m, has := h.mapZone(1)
	if h.floor != 0 || !has || m.Owner != h.id || h.zones[1] != nil {
		return
	}
	head := zone.Head{ID: 1, Span: m.Span, Epoch: m.Epoch, State: api.Serving}
	h.make(head, 0, econ.New().Encode())
}

// make lays a zone, and tells whether it did.
func (h *Host) make(head zone.Head, index int, image []byte) bool {
	z, err := zone.Make(h.disk, head, index, image)
	if !h.fine(err) {
		return false
	}
	h.zones[head.ID] = z
	return true
}

// raiseFloor writes down that no elder map is heard any more.
func (h *Host) raiseFloor() bool {
	if h.m.Version <= h.floor {
		return true
	}
	var w octet.Writer
	w.Nums(h.m.Version)
	if err := keep.Save(h.disk, floorFile, w.Out()); err != api.OK {
		h.dead = true
		return false
	}
	h.floor = h.m.Version
	return true
}

// settleOne settles the zone at a place of its map, which is its own.
func (h *Host) settleOne(at int, send post) {
	m := h.m.Zones[at]
	z := h.zones[m.ID]
	if !h.serve(m, z) {
		return
	}
	switch m.Pend {
	case api.DirSplit:
		if z.Head().Epoch == m.Epoch && !h.split(m, z) {
			return
		}
		if z.Head().Epoch == m.Epoch+1 {
			h.askDone(send, m)
		}
	case api.DirMerge:
		if at+1 < len(h.m.Zones) && h.m.Zones[at+1].ID == m.New {
			h.settleMerge(m, h.m.Zones[at+1], z, send)
		}
	}
}

// serve lets a zone serve that its map says is its own by now; false: an error.
func (h *Host) serve(m api.Zone, z *zone.Zone) bool {
	head := z.Head()
	switch {
	case head.State == api.Coming && head.Epoch == m.Epoch:
		head.State = api.Serving
	case isOwn(head) && head.Epoch < m.Epoch:
		head.Span, head.Epoch, head.State = m.Span, m.Epoch, api.Serving
	default:
		return true
	}
	return h.fine(z.Set(head))
}

// split makes two zones of one; a crash between both leaves the elder one with all, and it is done again.
func (h *Host) split(m api.Zone, z *zone.Zone) bool {
	ahead, behind, ok := span.Cut(m.Span, m.Key)
	if !ok {
		return false
	}
	other := zone.Head{ID: m.New, Span: behind, Epoch: m.Epoch + 1, State: api.Serving}
	if !h.make(other, z.Last(), z.Cut(behind)) {
		return false
	}
	return h.fine(z.Set(zone.Head{ID: m.ID, Span: ahead, Epoch: m.Epoch + 1, State: api.Serving}))
}

// settleMerge makes one zone of two that stand side by side.
func (h *Host) settleMerge(m, behind api.Zone, z *zone.Zone, send post) {
	theirs := max(m.Epoch, behind.Epoch) + 1
	other := h.zones[m.New]
	if z.Head().Epoch == m.Epoch && other != nil {
		both, ok := span.Join(m.Span, behind.Span)
		if !ok || !h.fine(z.Join(zone.Head{ID: m.ID, Span: both, Epoch: theirs, State: api.Serving}, other.Image())) {
			return
		}
	}
	if z.Head().Epoch != theirs {
		return
	}
	if other != nil && !h.drop(m.New) {
		return
	}
	h.askDone(send, m)
}

// drop takes a zone off the disk.
func (h *Host) drop(id int) bool {
	z := h.zones[id]
	err := z.Drop()
	h.hark(z)
	if !h.fine(err) {
		return false
	}
	delete(h.zones, id)
	h.load.Gone(id)
	return true
}

// dropRest drops what its map does not leave here.
func (h *Host) dropRest() {
	for _, id := range h.ids() {
		if h.stays(h.zones[id].Head()) {
			continue
		}
		if h.drop(id); h.dead {
			return
		}
	}
}

func (h *Host) stays(head zone.Head) bool {
	if head.State == api.Coming {
		return h.comes(head.ID, head.Epoch)
	}
	m, has := h.mapZone(head.ID)
	if has {
		return m.Owner == h.id || m.Epoch <= head.Epoch
	}
	for _, m := range h.m.Zones {
		if m.Pend == api.DirSplit && m.Owner == h.id && m.New == head.ID {
			return true
		}
	}
	return false
}

// forgetRest forgets sources and targets of zones that do not move any more.
func (h *Host) forgetRest() {
	maps.DeleteFunc(h.sources, func(id int, s *source.Source) bool {
		m, has := h.mapZone(id)
		return !has || !h.goes(m) || s.Epoch() != m.Epoch+1
	})
	maps.DeleteFunc(h.targets, func(id int, _ *target.Target) bool {
		m, has := h.mapZone(id)
		return !has || m.Pend != api.DirMove || m.To != h.id
	})
}
