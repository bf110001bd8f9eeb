package tool_test

import (
	"strconv"
	"strings"
	"testing"

	"satrapy/api"
	"satrapy/tool"
	"satrapy/world"
)

// runs a script; each row is a line and its answer, "-" for none at all.
func runs(t *testing.T, rows ...[2]string) {
	t.Helper()
	var lines, want []string
	for _, r := range rows {
		lines = append(lines, r[0])
		if r[1] != "-" {
			want = append(want, r[1])
		}
	}
	got := strings.Split(tool.Run(strings.Join(lines, "\n")+"\n"), "\n")
	if got[len(got)-1] != "" {
		t.Error("the last answer is not ended")
	}
	got = got[:len(got)-1]
	if len(got) != len(want) {
		t.Fatalf("%d answers, not %d: %q", len(got), len(want), got)
	}
	i := 0
	for _, r := range rows {
		if r[1] == "-" {
			continue
		}
		if got[i] != r[1] {
			t.Errorf("%q answers %q, not %q", r[0], got[i], r[1])
		}
		i++
	}
}

var long = strings.Repeat("k", api.MaxKey)

func fails(e api.Errno) string { return "error " + strconv.Itoa(int(e)) }

// P28.1
func TestAsTheDocumentSays(t *testing.T) {
	if got := tool.Run("new 1 1 1\nrest 30\nmint 0 a x 0 5\nrest 9\nat a x"); got != "ok\nok\nok\nok\n5 0 0 0\n" {
		t.Errorf("%q", got)
	}
}

func TestLinesThatAreNone(t *testing.T) {
	long := strings.Repeat("k", 17)
	bad := []string{
		"x", " ", "new", "new 1 1", "new 1 1 1 1", "new 1 1 x", "new  1 1 1", " new 1 1 1", "new 1 1 1 ", "New 1 1 1", "new 1 1 1\r",
		"rest", "rest x", "rest 1 2", "rest 1.5", "rest +1", "rest -", "rest --1", "rest 0x1", "rest 1234567890123456789", "rest -1234567890123456789", "rest \xff",
		"tick", "tick 1 2", "tick a", "give", "give 1 1", "lose", "lose a", "crash 8", "crash 8 1 1", "crash 8 x", "open", "open 8 1", "fuse 8", "fuse x 1",
		"split 1", "split 1 ", "split 1 " + long, "split x m", "split 1 m n", "merge", "merge x", "merge 1 1", "move 1", "move 1 x", "abort 1", "abort 1 x", "abort 1 1 1",
		"mint 0 a x 0", "mint 0 a x 0 5 5", "mint 0 a x b 5", "mint x a x 0 5", "mint 0 a  0 5", "mint 0 " + long + " x 0 5", "mint 0 a " + long + " 0 5",
		"look 0 a", "look 0 a x 1", "look a a x", "send 0 a x b y 0", "send 0 a x b y 0 5 5", "send 0 a x b " + long + " 0 5", "send 0 a x b y z 5",
		"buy 0 a x 1 1", "buy 0 a x 1 1 1 1", "sell 0 a x 1 1", "sell 0 a x 1 1 z", "cancel 0 a x", "cancel 0 a x y", "cancel 0 a x 1 1",
		"at a", "at a x y", "at  x", "at " + long + " x", "at a " + long, "map 1", "map ", "answers", "answers x", "answers 0 0", "judge 1", "judge ",
	}
	for _, line := range bad {
		if got := tool.Run("new 1 1 1\n" + line); got != "ok\n? "+line+"\n" {
			t.Errorf("%q answers %q", line, got)
		}
	}
	for _, line := range []string{"new", "new 1 1", "new 1 1 1 1", "new 1 1 x"} {
		if got := tool.Run(line); got != "? "+line+"\n" {
			t.Errorf("%q answers %q, without a world", line, got)
		}
	}
}

func TestWithoutAWorld(t *testing.T) {
	for _, line := range []string{
		"rest 1", "tick 0", "give 0", "lose 0", "crash 8 0", "open 8", "fuse 8 1", "split 1 m", "merge 1", "move 1 9", "abort 1 1", "mint 0 a x 0 5", "look 0 a x",
		"send 0 a x b y 0 5", "buy 0 a x 1 1 1", "sell 0 a x 1 1 1", "cancel 0 a x 1", "at a x", "map", "answers 0", "judge",
	} {
		runs(t, [2]string{line, "none"})
		runs(t, [2]string{"new 0 1 1", fails(api.ErrArg)}, [2]string{line, "none"})
	}
}

func TestEmptyLinesAndRemarks(t *testing.T) {
	if got := tool.Run(""); got != "" {
		t.Errorf("%q", got)
	}
	if got := tool.Run("\n\n# a remark\n#\n\n"); got != "" {
		t.Errorf("%q", got)
	}
	runs(t, [2]string{"# new 1 1 1", "-"}, [2]string{"map", "none"}, [2]string{"", "-"}, [2]string{"new 1 1 1", "ok"}, [2]string{" # x", "?  # x"}, [2]string{"map", "1 1:8:1:0"})
}

func TestNewWorlds(t *testing.T) {
	runs(t,
		[2]string{"new 4 1 1", fails(api.ErrArg)},
		[2]string{"new -1 1 1", fails(api.ErrArg)},
		[2]string{"new 3 6 4", "ok"},
		[2]string{"rest 40", "ok"},
		[2]string{"mint 3 a x 0 5", "ok"},
		[2]string{"rest 20", "ok"},
		[2]string{"at a x", "5 0 0 0"},
		[2]string{"new 001 1 1", "ok"},
		[2]string{"at a x", "none"},
		[2]string{"map", "1 1:8:1:0"},
	)
}

func TestSteps(t *testing.T) {
	none, arg := fails(api.ErrNone), fails(api.ErrArg)
	runs(t,
		[2]string{"new 1 3 2", "ok"},
		[2]string{"tick 1", fails(api.ErrNone)}, [2]string{"tick 10", "ok"}, [2]string{"tick 11", fails(api.ErrNone)}, [2]string{"tick 33", "ok"}, [2]string{"tick 34", fails(api.ErrNone)},
		[2]string{"new 1 2 2", "ok"},
		[2]string{"rest 0", "ok"}, [2]string{"rest -5", "ok"},
		[2]string{"tick 8", "ok"}, [2]string{"tick 8", "ok"}, [2]string{"tick 8", "ok"}, [2]string{"give 0", none}, [2]string{"lose 0", none},
		[2]string{"tick 8", "ok"}, [2]string{"lose 5", "ok"}, [2]string{"give 0", none},
		[2]string{"tick 7", none}, [2]string{"tick 32", "ok"}, [2]string{"tick 999999999999999999", none},
		[2]string{"rest 30", "ok"},
		[2]string{"map", "1 1:8:1:0"},
		[2]string{"open 8", fails(api.ErrBusy)}, [2]string{"crash 8 3", "ok"}, [2]string{"tick 8", fails(api.ErrDead)}, [2]string{"at a x", "none"},
		[2]string{"fuse 8 0", "ok"}, [2]string{"fuse 32 0", none}, [2]string{"crash 32 0", none}, [2]string{"open 32", none},
		[2]string{"crash 8 0", "ok"}, [2]string{"open 8", "ok"}, [2]string{"rest 9", "ok"}, [2]string{"at a x", "0 0 0 0"},
		[2]string{"split 1 m", "ok"}, [2]string{"rest 1", "ok"}, [2]string{"map", "2 1:8:1:1"}, [2]string{"rest 12", "ok"}, [2]string{"map", "3 1:8:2:0 2:8:2:0"},
		[2]string{"move 2 9", "ok"}, [2]string{"rest 1", "ok"}, [2]string{"map", "4 1:8:2:0 2:8:2:3"},
		[2]string{"abort 2 2", "ok"}, [2]string{"rest 12", "ok"}, [2]string{"map", "5 1:8:2:0 2:8:3:0"},
		[2]string{"move 2 9", "ok"}, [2]string{"rest 1", "ok"}, [2]string{"abort 2 2", "ok"}, [2]string{"abort 3 3", "ok"}, [2]string{"rest 1", "ok"}, [2]string{"map", "6 1:8:2:0 2:8:3:3"},
		[2]string{"abort 2 3", "ok"}, [2]string{"rest 12", "ok"}, [2]string{"map", "7 1:8:2:0 2:8:4:0"},
		[2]string{"move 2 9", "ok"}, [2]string{"rest 30", "ok"}, [2]string{"map", "9 1:8:2:0 2:9:5:0"},
		[2]string{"move 2 8", "ok"}, [2]string{"rest 30", "ok"}, [2]string{"merge 1", "ok"}, [2]string{"rest 20", "ok"}, [2]string{"map", "13 1:8:7:0"},
		[2]string{"split 0 m", arg}, [2]string{"merge -1", arg}, [2]string{"move 1 0", arg}, [2]string{"abort 1 0", arg},
		[2]string{"crash 0 0", "ok"}, [2]string{"map", "0"},
	)
}

func TestRequests(t *testing.T) {
	arg := fails(api.ErrArg)
	runs(t,
		[2]string{"new 1 1 2", "ok"}, [2]string{"rest 30", "ok"},
		[2]string{"answers 0", "0"}, [2]string{"answers 1", "0"}, [2]string{"answers 2", "none"}, [2]string{"answers -1", "none"}, [2]string{"answers -24", "none"},
		[2]string{"mint 0 a x 0 100", "ok"}, [2]string{"mint 0 a x 0 100", fails(api.ErrBusy)}, [2]string{"mint 1 a y 2 7", "ok"}, [2]string{"rest 9", "ok"},
		[2]string{"answers 0", "1 0 0 0 0 0 0"},
		[2]string{"mint 0 a x 4 1", arg}, [2]string{"mint 0 a x 0 0", arg}, [2]string{"mint 2 a x 0 5", fails(api.ErrNone)}, [2]string{"mint -24 a x 0 5", fails(api.ErrNone)},
		[2]string{"look 1 a x", "ok"}, [2]string{"rest 9", "ok"}, [2]string{"answers 1", "2 0 0 100 0 0 0"},
		[2]string{"send 0 a x b z 0 30", "ok"}, [2]string{"rest 9", "ok"}, [2]string{"at a x", "70 0 0 0"}, [2]string{"at b z", "30 0 0 0"},
		[2]string{"send 0 a x b z 0 99", "ok"}, [2]string{"rest 9", "ok"}, [2]string{"answers 0", "3 14 0 0 0 0 0"},
		[2]string{"sell 1 a y 2 5 3", "ok"}, [2]string{"rest 9", "ok"}, [2]string{"answers 1", "3 0 1 0 0 0 0"},
		[2]string{"buy 0 a x 2 2 4", "ok"}, [2]string{"rest 9", "ok"}, [2]string{"answers 0", "4 0 2 0 0 0 0"},
		[2]string{"at a x", "64 0 2 0"}, [2]string{"at a y", "6 0 2 0"},
		[2]string{"cancel 1 a y 1", "ok"}, [2]string{"rest 9", "ok"}, [2]string{"at a y", "6 0 5 0"}, [2]string{"answers 1", "4 0 0 0 0 0 0"},
		[2]string{"cancel 1 a y 1", "ok"}, [2]string{"rest 9", "ok"}, [2]string{"answers 1", "5 7 0 0 0 0 0"},
		[2]string{"buy 0 a x 0 2 4", arg}, [2]string{"sell 0 a x 1 1 0", arg}, [2]string{"cancel 0 a x 0", arg},
		[2]string{"judge", "-1 -1"},
		[2]string{"at \xff \xfe", "0 0 0 0"}, [2]string{"at " + long + " " + long, "0 0 0 0"},
		[2]string{"mint 0 " + long + " " + long + " 3 9", "ok"}, [2]string{"rest 9", "ok"}, [2]string{"at " + long + " " + long, "0 0 0 9"},
	)
}

func TestJudgeOfNothing(t *testing.T) {
	runs(t, [2]string{"new 1 1 4", "ok"}, [2]string{"judge", "-1 -1"}, [2]string{"rest 30", "ok"}, [2]string{"judge", "-1 -1"})
}

func TestTheRoom(t *testing.T) {
	w, _ := world.New(world.Config{Seats: 1, Hosts: 1, Gates: 1, Room: 1 << 16})
	script := "new 1 1 1\nrest 20\n"
	w.Do(world.Step{Kind: world.StepRest, N: 20})
	for i := 0; w.Up(api.FirstHost); i++ {
		if i > 2000 {
			t.Fatal("its disk is never full")
		}
		who := "somebody" + strconv.Itoa(i)
		script += "mint 0 " + long + " " + who + " 3 1000000\nrest 9\n"
		w.Do(world.Step{Kind: world.StepSubmit, Node: api.FirstGate, Op: api.Op{Kind: api.OpMint, At: api.Place{Key: long, Who: who}, Item: 3, Count: 1000000}})
		w.Do(world.Step{Kind: world.StepRest, N: 9})
	}
	rows := strings.Split(tool.Run(script+"answers 0\nat a x\n"), "\n")
	if n := strconv.Itoa(len(w.Gate(api.FirstGate).Answers())); !strings.HasPrefix(rows[len(rows)-3], n+" ") || rows[len(rows)-2] != "none" {
		t.Errorf("%q, not %s answers", rows[len(rows)-3:], n)
	}
}

// P28.2
func TestOneScriptBehindTheOther(t *testing.T) {
	a := "new 2 2 1\nrest 30\n# x\nmint 0 a x 0 5\nbad\nrest 9\nat a x\n"
	b := "split 1 m\nrest 20\nmap\nlook 0 a x\nrest 9\nanswers 0\njudge"
	first, both := tool.Run(a), tool.Run(a+b)
	if !strings.HasPrefix(both, first) || tool.Run(a+b) != both || len(both) <= len(first) {
		t.Errorf("%q\n%q", first, both)
	}
	if alone := tool.Run(b); strings.TrimPrefix(both, first) == alone {
		t.Error("the second one goes on where the first one ended")
	}
}
