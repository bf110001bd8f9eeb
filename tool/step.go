package tool

import (
	"satrapy/api"
	"satrapy/world"
)

func (s *script) step(x world.Step) string { return told(s.world.Do(x)) }

func (s *script) rest(a args) string {
	return s.step(world.Step{Kind: world.StepRest, N: a.nums[0]})
}

func (s *script) tick(a args) string {
	return s.step(world.Step{Kind: world.StepTick, Node: a.nums[0]})
}

func (s *script) give(a args) string {
	return s.step(world.Step{Kind: world.StepGive, Pick: a.nums[0]})
}

func (s *script) lose(a args) string {
	return s.step(world.Step{Kind: world.StepLose, Pick: a.nums[0]})
}

func (s *script) crash(a args) string {
	return s.step(world.Step{Kind: world.StepCrash, Node: a.nums[0], Draw: a.nums[1]})
}

func (s *script) open(a args) string {
	return s.step(world.Step{Kind: world.StepOpen, Node: a.nums[0]})
}

func (s *script) fuse(a args) string {
	return s.step(world.Step{Kind: world.StepFuse, Node: a.nums[0], N: a.nums[1]})
}

func (s *script) change(c api.Change) string {
	return s.step(world.Step{Kind: world.StepChange, Change: c})
}

func (s *script) split(a args) string {
	return s.change(api.Change{Kind: api.DirSplit, Zone: a.nums[0], Key: a.words[0]})
}

func (s *script) merge(a args) string {
	return s.change(api.Change{Kind: api.DirMerge, Zone: a.nums[0]})
}

func (s *script) move(a args) string {
	return s.change(api.Change{Kind: api.DirMove, Zone: a.nums[0], To: a.nums[1]})
}

func (s *script) abort(a args) string {
	return s.change(api.Change{Kind: api.DirAbort, Zone: a.nums[0], Epoch: a.nums[1]})
}

// submit hands a request to the gate that the line's first number tells.
func (s *script) submit(a args, o api.Op) string {
	o.At = place(a, 0)
	return s.step(world.Step{Kind: world.StepSubmit, Node: api.FirstGate + a.nums[0], Op: o})
}

func (s *script) mint(a args) string {
	return s.submit(a, api.Op{Kind: api.OpMint, Item: a.nums[1], Count: a.nums[2]})
}

func (s *script) look(a args) string { return s.submit(a, api.Op{Kind: api.OpLook}) }

func (s *script) send(a args) string {
	return s.submit(a, api.Op{Kind: api.OpSend, To: place(a, 1), Item: a.nums[1], Count: a.nums[2]})
}

func (s *script) buy(a args) string { return s.order(a, true) }

func (s *script) sell(a args) string { return s.order(a, false) }

func (s *script) order(a args, buy bool) string {
	return s.submit(a, api.Op{Kind: api.OpOrder, Item: a.nums[1], Count: a.nums[2], Price: a.nums[3], Buy: buy})
}

func (s *script) cancel(a args) string {
	return s.submit(a, api.Op{Kind: api.OpCancel, ID: a.nums[1]})
}

// place is the first or second place that a line tells.
func place(a args, n int) api.Place {
	return api.Place{Key: a.words[2*n], Who: a.words[2*n+1]}
}
