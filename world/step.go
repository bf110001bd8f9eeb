package world

import (
	"satrapy/api"
	"satrapy/dir"
	"satrapy/load"
	"satrapy/plan"
	"satrapy/wire"
)

// deeds has, by Kinds, what a step does.
func deeds() [14]func(*World, Step) api.Errno {
	return [14]func(*World, Step) api.Errno{
		StepTick:   (*World).stepTick,
		StepGive:   (*World).stepGive,
		StepLose:   (*World).stepLose,
		StepTwice:  (*World).stepTwice,
		StepLate:   (*World).stepLate,
		StepSpoil:  (*World).stepSpoil,
		StepFuse:   (*World).stepFuse,
		StepCrash:  (*World).stepCrash,
		StepOpen:   (*World).stepOpen,
		StepSubmit: (*World).stepSubmit,
		StepChange: (*World).stepChange,
		StepPlan:   (*World).stepPlan,
		StepRest:   (*World).stepRest,
	}
}

func (w *World) stepTick(s Step) api.Errno {
	if !w.isNode(s.Node) {
		return api.ErrNone
	}
	if !w.Up(s.Node) {
		return api.ErrDead
	}
	w.tick(s.Node, s.N)
	return api.OK
}

func (w *World) stepGive(s Step) api.Errno {
	m, ok := w.net.Give(s.Pick)
	if !ok {
		return api.ErrNone
	}
	w.give(m, s.N)
	return api.OK
}

func (w *World) stepLose(s Step) api.Errno {
	_, ok := w.net.Give(s.Pick)
	return orNone(ok)
}

func (w *World) stepTwice(s Step) api.Errno { return orNone(w.net.Twice(s.Pick)) }

func (w *World) stepLate(s Step) api.Errno { return orNone(w.net.Late(s.Pick)) }

func (w *World) stepSpoil(s Step) api.Errno {
	return orNone(w.net.Spoil(s.Pick, s.N, byte(s.Draw)))
}

func (w *World) stepFuse(s Step) api.Errno {
	if !w.hasDisk(s.Node) {
		return api.ErrNone
	}
	w.disks[s.Node].Fuse(s.N)
	return api.OK
}

func (w *World) stepCrash(s Step) api.Errno {
	if !w.hasDisk(s.Node) {
		return api.ErrNone
	}
	w.down(s.Node, s.Draw)
	return api.OK
}

func (w *World) stepOpen(s Step) api.Errno {
	if !w.hasDisk(s.Node) {
		return api.ErrNone
	}
	if w.Up(s.Node) {
		return api.ErrBusy
	}
	return w.open(s.Node, s.Draw)
}

func (w *World) stepSubmit(s Step) api.Errno {
	g := w.Gate(s.Node)
	if g == nil {
		return api.ErrNone
	}
	_, err := g.Submit(s.Op)
	return err
}

func (w *World) stepChange(s Step) api.Errno {
	if _, err := dir.EncodeChange(s.Change); err != api.OK || s.Change.Kind == api.DirDone {
		return api.ErrArg
	}
	w.ask(s.Change)
	return api.OK
}

func (w *World) stepPlan(s Step) api.Errno {
	var tables [][]load.Row
	for _, h := range w.hosts {
		tables = append(tables, h.Loads())
	}
	for _, c := range plan.Make(w.Map(), w.hostNodes(), load.Sum(tables...), plan.Limits{Hot: s.N, Cold: s.Draw}) {
		w.ask(c)
	}
	for _, h := range w.hosts {
		h.Fade()
	}
	return api.OK
}

func (w *World) stepRest(s Step) api.Errno {
	for round := range min(max(s.N, 0), maxRounds) {
		w.round(round, s.Draw)
	}
	return api.OK
}

// round lets all that are up Tick, and then gives what is under way.
func (w *World) round(done, draw int) {
	for i := range w.seats {
		w.tick(i, i*7+done)
		w.look(draw)
	}
	for i := range w.hosts {
		w.tick(api.FirstHost+i, 0)
		w.look(draw)
	}
	for i := range w.gates {
		w.tick(api.FirstGate+i, 0)
	}
	for range maxGiven {
		m, ok := w.net.Give(0)
		if !ok {
			return
		}
		w.give(m, done)
		w.look(draw)
	}
}

// tick lets a node Tick, if it is up.
func (w *World) tick(node, draw int) {
	w.net.Send(w.Seat(node).Tick(draw)...)
	w.net.Send(w.Host(node).Tick()...)
	w.net.Send(w.Gate(node).Tick()...)
}

// give lets the one that a message goes to hear it, if that is up.
func (w *World) give(m api.Msg, draw int) {
	w.net.Send(w.Seat(m.To).Hear(m, draw)...)
	w.net.Send(w.Host(m.To).Hear(m)...)
	w.net.Send(w.Gate(m.To).Hear(m)...)
}

// ask asks each seat for a change.
func (w *World) ask(c api.Change) {
	for _, to := range w.seatNodes() {
		b, err := wire.Encode(wire.Word{Kind: wire.Ask, Change: c})
		if err == api.OK {
			w.net.Send(api.Msg{From: outsider, To: to, Data: b})
		}
	}
}

func (w *World) hasDisk(node int) bool { return w.disks[node] != nil }

func (w *World) isNode(node int) bool { return w.hasDisk(node) || w.Gate(node) != nil }

func orNone(ok bool) api.Errno {
	if !ok {
		return api.ErrNone
	}
	return api.OK
}
