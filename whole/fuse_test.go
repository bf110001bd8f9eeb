package whole_test

import (
	"strings"
	"testing"

	"satrapy/api"
	"satrapy/tool"
	"satrapy/world"
)

func at(key string) api.Place { return api.Place{Key: key, Who: "x"} }

func submit(gate int, o api.Op) world.Step {
	return world.Step{Kind: world.StepSubmit, Node: api.FirstGate + gate, Op: o}
}

func mint(gate int, key string, n int) world.Step {
	return submit(gate, api.Op{Kind: api.OpMint, At: at(key), Count: n})
}

func send(gate int, from, to string, n int) world.Step {
	return submit(gate, api.Op{Kind: api.OpSend, At: at(from), To: at(to), Count: n})
}

func change(kind, zone, to int, key string) world.Step {
	return world.Step{Kind: world.StepChange, Change: api.Change{Kind: kind, Zone: zone, To: to, Key: key}}
}

func rest(n int) world.Step { return world.Step{Kind: world.StepRest, N: n} }

// life is a zone that is split, of which a part moves, and comes back, and is merged, while gates ask.
func life() []world.Step {
	return []world.Step{
		mint(0, "a", 50), mint(1, "q", 60), rest(6),
		change(api.DirSplit, 1, 0, "m"), send(0, "a", "q", 5), rest(3), mint(1, "r", 7), rest(6),
		change(api.DirMove, 2, 9, ""), send(0, "a", "r", 6), send(1, "q", "a", 9), rest(5), mint(1, "q", 1), rest(3), mint(1, "q", 2), rest(9),
		change(api.DirMove, 1, 9, ""), mint(0, "b", 1), rest(9), send(1, "r", "b", 2), rest(12),
		change(api.DirMerge, 1, 0, ""), mint(0, "a", 4), rest(12),
		change(api.DirMove, 1, 8, ""), send(0, "a", "s", 3), rest(4), mint(1, "z", 3), rest(20),
	}
}

// P0.1 to P0.4, wherever a fuse burns: of each disk in turn, behind each thing that it does.
func TestWhereverAFuseBurns(t *testing.T) {
	for _, node := range []int{0, 8, 9} {
		for n := 0; n < 90; n += 1 + n/40 {
			r := begin(t, 1, world.Config{Seats: 1, Hosts: 2, Gates: 2, Room: 1 << 18})
			r.do(rest(16))
			r.do(world.Step{Kind: world.StepFuse, Node: node, N: n})
			for _, s := range life() {
				s.Draw = n * 5 // of the crash, if the disk errs in this step
				r.do(s)
				if !r.w.Up(node) && n%3 > 0 {
					r.do(world.Step{Kind: world.StepOpen, Node: node, Draw: n})
				}
			}
			r.calm()
			r.oneOrder()
			r.oneRow()
			r.nothingLost()
			if t.Failed() {
				t.Fatal("node", node, "fuse", n)
			}
		}
	}
}

// P0.1 to P0.4 by lines.
func TestALongScript(t *testing.T) {
	script := `new 3 3 2
rest 40
mint 0 a x 0 500
mint 1 q y 1 40
rest 9
split 1 m
send 0 a x q y 0 100
rest 3
crash 8 7
rest 5
open 8
rest 40
move 2 9
sell 1 q y 1 10 3
rest 2
fuse 9 4
rest 9
crash 9 0
open 9
rest 40
buy 0 q y 1 4 5
split 2 t
rest 2
crash 1 5
crash 2 5
rest 4
open 1
open 2
rest 40
merge 2
rest 30
move 2 10
rest 1
move 1 10
look 1 q y
rest 60
merge 1
rest 60
map
at a x
at q y
look 0 a x
rest 9
answers 0
judge
`
	rows := strings.Split(tool.Run(script), "\n")
	for i, row := range rows[:strings.Count(script, "\n")-7] {
		if row != "ok" {
			t.Fatal("line", i, row)
		}
	}
	tail := rows[len(rows)-8:]
	for i, row := range map[int]string{1: "400 0 0 0", 2: "100 34 0 0", 5: "4 0 0 400 0 0 0", 6: "-1 -1", 7: ""} {
		if tail[i] != row {
			t.Errorf("%q, not %q, in %q", tail[i], row, tail)
		}
	}
	if zones := strings.Fields(tail[0]); len(zones) != 2 || !strings.HasPrefix(zones[1], "1:10:") || !strings.HasSuffix(zones[1], ":0") {
		t.Error("it is not one zone, at host 10:", tail[0])
	}
}
