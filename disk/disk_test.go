package disk_test

import (
	"bytes"
	"fmt"
	"math"
	"slices"
	"strings"
	"testing"

	"satrapy/api"
	"satrapy/disk"
)

func made(t *testing.T, room int) *disk.Disk {
	t.Helper()
	d, err := disk.New(room)
	if err != api.OK || d == nil {
		t.Fatal("New", room, err)
	}
	return d
}

func want(t *testing.T, what string, got, want api.Errno) {
	t.Helper()
	if got != want {
		t.Errorf("%s: %v, not %v", what, got, want)
	}
}

func holds(t *testing.T, d *disk.Disk, name, want string) {
	t.Helper()
	b, err := d.Read(name)
	if err != api.OK || string(b) != want {
		t.Errorf("%s: %q, %v, not %q", name, b, err, want)
	}
}

func gone(t *testing.T, d *disk.Disk, name string) {
	t.Helper()
	if b, err := d.Read(name); err != api.ErrNone || len(b) != 0 {
		t.Errorf("%s is there: %q, %v", name, b, err)
	}
}

var long = strings.Repeat("n", 65)

// five is each of the five as it errs or not with two names.
func five(d *disk.Disk, a, b string) map[string]api.Errno {
	return map[string]api.Errno{
		"Append":   d.Append(a, []byte("x")),
		"Sync":     d.Sync(a),
		"Truncate": d.Truncate(a, 0),
		"Rename":   d.Rename(a, b),
		"Remove":   d.Remove(b),
	}
}

// P3.1
func TestNew(t *testing.T) {
	for _, room := range []int{-1, math.MinInt, 1<<30 + 1, math.MaxInt} {
		if d, err := disk.New(room); err != api.ErrArg || d != nil {
			t.Error(room, d, err)
		}
	}
	for _, room := range []int{0, 1, 1 << 30} {
		d := made(t, room)
		if len(d.List()) != 0 || d.Used() != 0 {
			t.Error(room, "not empty")
		}
		want(t, "Append of nothing", d.Append("a"), api.OK)
	}
}

func TestNamesThatAreNone(t *testing.T) {
	for _, name := range []string{"", long} {
		d := made(t, 100)
		for what, err := range five(d, name, name) {
			want(t, what, err, api.ErrArg)
		}
		want(t, "Append", d.Append("a", []byte("x")), api.OK)
		want(t, "Rename to none", d.Rename("a", name), api.ErrArg)
		want(t, "Rename of what is not there to none", d.Rename("b", name), api.ErrArg)
		want(t, "Append of too much", d.Append(name, make([]byte, 200)), api.ErrArg)
		if !slices.Equal(d.List(), []string{"a"}) {
			t.Error(d.List())
		}
	}
	d := made(t, 100)
	for what, err := range five(d, strings.Repeat("n", 64), "\xff") {
		want(t, what, err, api.OK)
	}
}

func TestSeveralNames(t *testing.T) {
	d := made(t, 100)
	for _, name := range []string{"a", "b", "c", "d"} {
		want(t, "Append", d.Append(name, []byte(name+name)), api.OK)
	}
	want(t, "Sync of none", d.Sync(), api.OK)
	want(t, "Remove of none", d.Remove(), api.OK)
	want(t, "Sync", d.Sync("a", "x", "b"), api.ErrNone)
	want(t, "Remove", d.Remove("c", "", "d"), api.ErrArg)
	if !slices.Equal(d.List(), []string{"a", "b", "d"}) {
		t.Error(d.List())
	}
	d.Crash(0)
	holds(t, d, "a", "aa")
	holds(t, d, "b", "")
	holds(t, d, "d", "")
}

func TestDeadAheadOfAllElse(t *testing.T) {
	d := made(t, 3)
	want(t, "Append", d.Append("a", []byte("x")), api.OK)
	d.Fuse(0)
	for _, name := range []string{"a", "b", "", long} {
		for what, err := range five(d, name, name) {
			want(t, what, err, api.ErrDead)
		}
	}
	want(t, "Append of too much", d.Append("a", make([]byte, 9)), api.ErrDead)
	want(t, "Truncate", d.Truncate("a", 9), api.ErrDead)
	want(t, "Sync of none", d.Sync(), api.OK)
	want(t, "Remove of none", d.Remove(), api.OK)
	holds(t, d, "a", "x")
	if !slices.Equal(d.List(), []string{"a"}) || d.Used() != 1 {
		t.Error("reading goes on", d.List(), d.Used())
	}
}

// P3.2
func TestAppend(t *testing.T) {
	d := made(t, 10)
	want(t, "Append", d.Append("a", []byte("12"), nil, []byte("34")), api.OK)
	want(t, "Append", d.Append("b"), api.OK)
	want(t, "Append", d.Append("a", []byte("5")), api.OK)
	holds(t, d, "a", "12345")
	holds(t, d, "b", "")
	want(t, "just all room", d.Append("b", []byte("xxx"), []byte("yy")), api.OK)
	want(t, "one more", d.Append("b", []byte("z")), api.ErrFull)
	want(t, "one more, a new file", d.Append("c", []byte("z")), api.ErrFull)
	want(t, "nothing more", d.Append("c", nil), api.OK)
	holds(t, d, "b", "xxxyy")
	holds(t, d, "c", "")
	if d.Used() != 10 {
		t.Error(d.Used())
	}
	want(t, "Remove", d.Remove("a"), api.OK)
	want(t, "two rows that are too much together", d.Append("c", []byte("zzz"), []byte("zzz")), api.ErrFull)
	want(t, "room again", d.Append("c", []byte("zzzzz")), api.OK)
}

func TestMaxFiles(t *testing.T) {
	d := made(t, 100)
	for i := range api.MaxFiles {
		if err := d.Append(fmt.Sprint("f", i)); err != api.OK {
			t.Fatal(i, err)
		}
	}
	want(t, "one more", d.Append("more"), api.ErrFull)
	want(t, "one that is there", d.Append("f7", []byte("x")), api.OK)
	want(t, "Rename", d.Rename("f7", "more"), api.OK)
	want(t, "Append", d.Append("f7"), api.ErrFull)
	want(t, "Remove", d.Remove("f8"), api.OK)
	want(t, "Append", d.Append("f7"), api.OK)
	if len(d.List()) != api.MaxFiles {
		t.Error(len(d.List()))
	}
}

func TestTruncate(t *testing.T) {
	d := made(t, 20)
	want(t, "not there", d.Truncate("a", 0), api.ErrNone)
	want(t, "not there, and none", d.Truncate("a", -1), api.ErrNone)
	d.Append("a", []byte("12345"))
	for _, n := range []int{-1, 6, math.MaxInt, math.MinInt} {
		want(t, "Truncate", d.Truncate("a", n), api.ErrArg)
	}
	want(t, "all of it", d.Truncate("a", 5), api.OK)
	holds(t, d, "a", "12345")
	d.Sync("a")
	want(t, "some", d.Truncate("a", 3), api.OK)
	holds(t, d, "a", "123")
	if d.Used() != 3 {
		t.Error(d.Used())
	}
	d.Append("a", []byte("67"))
	holds(t, d, "a", "12367")
	d.Crash(0)
	holds(t, d, "a", "123")
	want(t, "nothing stays", d.Truncate("a", 0), api.OK)
	holds(t, d, "a", "")
}

func TestSyncLasts(t *testing.T) {
	d := made(t, 20)
	want(t, "not there", d.Sync("a"), api.ErrNone)
	d.Append("a", []byte("12"))
	want(t, "Sync", d.Sync("a"), api.OK)
	d.Append("a", []byte("3"))
	d.Crash(0)
	holds(t, d, "a", "12")
}

// P3.3
func TestRename(t *testing.T) {
	d := made(t, 20)
	want(t, "not there", d.Rename("a", "b"), api.ErrNone)
	want(t, "not there, to itself", d.Rename("a", "a"), api.ErrNone)
	d.Append("a", []byte("111"))
	d.Append("b", []byte("2222"))
	d.Sync("a")
	d.Append("a", []byte("9"))
	want(t, "to itself", d.Rename("a", "a"), api.OK)
	holds(t, d, "a", "1119")
	want(t, "over another", d.Rename("a", "b"), api.OK)
	gone(t, d, "a")
	holds(t, d, "b", "1119")
	if d.Used() != 4 || !slices.Equal(d.List(), []string{"b"}) {
		t.Error(d.Used(), d.List())
	}
	d.Crash(0)
	holds(t, d, "b", "111")
	gone(t, d, "a")
}

func TestRemove(t *testing.T) {
	d := made(t, 20)
	want(t, "not there", d.Remove("a"), api.ErrNone)
	d.Append("a", []byte("1"))
	d.Sync("a")
	want(t, "Remove", d.Remove("a"), api.OK)
	d.Crash(9)
	gone(t, d, "a")
	if d.Used() != 0 || len(d.List()) != 0 {
		t.Error(d.Used(), d.List())
	}
	d.Append("a", []byte("22"))
	d.Crash(0)
	holds(t, d, "a", "")
}

// P3.4
func TestFuseCountsWhatIsDone(t *testing.T) {
	d := made(t, 20)
	d.Fuse(6)
	want(t, "1", d.Append("a", []byte("1")), api.OK)
	want(t, "errs", d.Append("a", make([]byte, 40)), api.ErrFull)
	want(t, "errs", d.Sync("x"), api.ErrNone)
	want(t, "errs", d.Rename("a", ""), api.ErrArg)
	want(t, "nothing", d.Sync(), api.OK)
	want(t, "2", d.Append("b"), api.OK)
	want(t, "3 and 4", d.Sync("a", "b"), api.OK)
	want(t, "5", d.Truncate("a", 0), api.OK)
	want(t, "6, and one too many", d.Remove("a", "b"), api.ErrDead)
	gone(t, d, "a")
	holds(t, d, "b", "")
	for what, err := range five(d, "b", "c") {
		want(t, what, err, api.ErrDead)
	}
	d.Fuse(1)
	want(t, "to itself", d.Rename("b", "b"), api.OK)
	want(t, "burnt", d.Append("b", []byte("z")), api.ErrDead)
	for _, n := range []int{-1, math.MinInt} {
		d.Fuse(0)
		d.Fuse(n)
		for range 50 {
			want(t, "no fuse", d.Sync("b"), api.OK)
		}
	}
	d.Fuse(math.MaxInt)
	want(t, "a long fuse", d.Sync("b"), api.OK)
}

func TestCrash(t *testing.T) {
	for draw, kept := range map[int]string{
		math.MinInt: "12", -1: "12", 0: "12", 1: "123", 2: "1234", 3: "12345", 4: "12", 5: "123", 7: "12345", math.MaxInt: "12345",
	} {
		d := made(t, 20)
		d.Append("a", []byte("12"))
		d.Sync("a")
		d.Append("a", []byte("345"))
		d.Append("b", []byte("6"))
		d.Crash(draw)
		holds(t, d, "a", kept)
		loose := max(draw, 0) % 2
		holds(t, d, "b", "6"[:loose])
		if d.Used() != len(kept)+loose {
			t.Error(draw, d.Used())
		}
		d.Crash(0)
		holds(t, d, "a", kept)
		holds(t, d, "b", "6"[:loose])
	}
	d := made(t, 20)
	d.Append("a", []byte("12"), []byte("34"))
	d.Sync("a")
	d.Append("a", []byte("56"))
	d.Fuse(0)
	d.Crash(1)
	holds(t, d, "a", "12345")
	want(t, "no fuse", d.Append("a", []byte("x")), api.OK)
	d.Fuse(3)
	d.Crash(0)
	for range 9 {
		want(t, "no fuse", d.Append("a", []byte("x")), api.OK)
	}
}

// P3.5
func TestListAndRead(t *testing.T) {
	d := made(t, 20)
	for _, name := range []string{"b", "a", "\xff", "B", "ab"} {
		d.Append(name, []byte("x"))
	}
	if got := d.List(); !slices.Equal(got, []string{"B", "a", "ab", "b", "\xff"}) {
		t.Errorf("%q", got)
	}
	for _, name := range []string{"", "c", long} {
		gone(t, d, name)
	}
	if d.Used() != 5 {
		t.Error(d.Used())
	}
}

func TestCopy(t *testing.T) {
	d := made(t, 6)
	d.Append("a", []byte("12"))
	d.Sync("a")
	d.Append("a", []byte("34"))
	d.Fuse(0)
	c := d.Copy()
	holds(t, c, "a", "1234")
	want(t, "no fuse", c.Append("b", []byte("56")), api.OK)
	want(t, "the same room", c.Append("b", []byte("7")), api.ErrFull)
	gone(t, d, "b")
	c.Crash(0)
	holds(t, c, "a", "12")
	holds(t, d, "a", "1234")
	want(t, "the fuse is the first one's", d.Sync("a"), api.ErrDead)
	d.Crash(1)
	holds(t, d, "a", "123")
	want(t, "Append", c.Append("a", []byte("x")), api.OK)
	holds(t, d, "a", "123")
	holds(t, c, "a", "12x")
	if c.Used() != 3 || d.Used() != 3 {
		t.Error(c.Used(), d.Used())
	}
}

// P3.6
func TestBytesThatLastAreNeverTurned(t *testing.T) {
	d := made(t, 1000)
	var sure []byte
	for i := range 60 {
		d.Append("a", []byte{byte(i), byte(i * 7)})
		if i%3 == 0 {
			d.Sync("a")
			sure, _ = d.Read("a")
		}
		if i%7 == 0 {
			d.Crash(i)
			now, _ := d.Read("a")
			if !bytes.HasPrefix(now, sure) {
				t.Fatal(i)
			}
			sure = now
		}
	}
}

func TestNewMemory(t *testing.T) {
	d := made(t, 100)
	room := []byte("abcdef")
	d.Append("a", room[:2], room[3:4])
	if string(room) != "abcdef" {
		t.Errorf("changed: %q", room)
	}
	copy(room, "xxxxxx")
	holds(t, d, "a", "abd")
	b, _ := d.Read("a")
	copy(b, "yyy")
	_ = append(b, "zzz"...)
	d.Append("a", []byte("e"))
	holds(t, d, "a", "abde")
	d.Truncate("a", 1)
	d.Append("a", []byte("123"))
	if string(b) != "yyy" {
		t.Errorf("an answer changed: %q", b)
	}
	l := d.List()
	l[0] = "q"
	holds(t, d, "a", "a123")
}

func TestAZeroDiskHasNoRoom(t *testing.T) {
	var d disk.Disk
	want(t, "Append", d.Append("a", []byte("x")), api.ErrFull)
	want(t, "Append of nothing", d.Append("a"), api.OK)
	holds(t, &d, "a", "")
}

func TestNilDisk(t *testing.T) {
	var d *disk.Disk
	for what, err := range five(d, "a", "b") {
		want(t, what, err, api.ErrArg)
	}
	want(t, "Sync of none", d.Sync(), api.ErrArg)
	want(t, "Remove of none", d.Remove(), api.ErrArg)
	d.Fuse(1)
	d.Crash(1)
	if b, err := d.Read("a"); err != api.ErrNone || len(b) != 0 {
		t.Error(b, err)
	}
	if len(d.List()) != 0 || d.Used() != 0 || d.Copy() != nil {
		t.Error("a nil Disk has something")
	}
}
