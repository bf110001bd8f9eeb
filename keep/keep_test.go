package keep_test

import (
	"fmt"
	"slices"
	"strings"
	"testing"

	"satrapy/api"
	"satrapy/disk"
	"satrapy/frame"
	"satrapy/keep"
)

func fresh(t *testing.T, room int) *disk.Disk {
	t.Helper()
	d, err := disk.New(room)
	if err != api.OK {
		t.Fatal(err)
	}
	return d
}

func want(t *testing.T, what string, got, want api.Errno) {
	t.Helper()
	if got != want {
		t.Errorf("%s: %v, not %v", what, got, want)
	}
}

func holds(t *testing.T, d *disk.Disk, name, want string) {
	t.Helper()
	if p, err := keep.Load(d, name); err != api.OK || string(p) != want {
		t.Errorf("%s: %q, %v, not %q", name, p, err, want)
	}
}

// P4.1
func TestSaveErrs(t *testing.T) {
	d := fresh(t, 3<<20)
	huge := make([]byte, api.MaxFrame+1)
	for _, name := range []string{"", strings.Repeat("n", 61)} {
		want(t, "a name that is none", keep.Save(d, name, []byte("x")), api.ErrArg)
		want(t, "a name that is none, too long", keep.Save(d, name, huge), api.ErrArg)
	}
	want(t, "no disk", keep.Save(nil, "a", []byte("x")), api.ErrArg)
	want(t, "too long", keep.Save(d, "a", huge), api.ErrLong)
	want(t, "too long together", keep.Save(d, "a", huge[1:], []byte("x")), api.ErrLong)
	if len(d.List()) != 0 {
		t.Error(d.List())
	}
	d.Fuse(0)
	want(t, "too long, on a dead disk", keep.Save(d, "a", huge), api.ErrLong)
	want(t, "a dead disk", keep.Save(d, "a", []byte("x")), api.ErrDead)
	d.Fuse(-1)
	want(t, "a name of 60", keep.Save(d, strings.Repeat("n", 60), huge[1:]), api.OK)
}

func TestSaveIsFourThings(t *testing.T) {
	d := fresh(t, 1000)
	d.Fuse(3)
	want(t, "Save", keep.Save(d, "a", []byte("12"), nil, []byte("3")), api.OK)
	want(t, "Append, Sync, Rename", d.Append("x"), api.ErrDead)
	d.Fuse(-1)
	b, _ := d.Read("a")
	record, _ := frame.Encode([]byte("123"))
	if string(b) != string(record) || !slices.Equal(d.List(), []string{"a"}) {
		t.Errorf("% x, %q", b, d.List())
	}
	d.Append("a~", []byte("left behind"))
	d.Fuse(4)
	want(t, "Save over what was left behind", keep.Save(d, "a", []byte("4")), api.OK)
	want(t, "Remove, too", d.Append("x"), api.ErrDead)
	d.Fuse(-1)
	d.Crash(0)
	holds(t, d, "a", "4")
	if !slices.Equal(d.List(), []string{"a"}) {
		t.Error(d.List())
	}
	want(t, "Save of nothing", keep.Save(d, "a"), api.OK)
	holds(t, d, "a", "")
}

func TestSaveOnAFullDisk(t *testing.T) {
	d := fresh(t, 30)
	want(t, "Save", keep.Save(d, "a", []byte("1234567")), api.OK)
	want(t, "no room for two", keep.Save(d, "a", []byte("1234567")), api.ErrFull)
	holds(t, d, "a", "1234567")
	d.Append("x", make([]byte, 11))
	want(t, "no room", keep.Save(d, "b", nil), api.ErrFull)
	if _, err := keep.Load(d, "b"); err != api.ErrNone {
		t.Error(err)
	}
}

// P4.2
func TestLoad(t *testing.T) {
	d := fresh(t, 1000)
	if p, err := keep.Load(nil, "a"); err != api.ErrArg || len(p) != 0 {
		t.Error(p, err)
	}
	for _, name := range []string{"a", "", strings.Repeat("n", 70)} {
		if p, err := keep.Load(d, name); err != api.ErrNone || len(p) != 0 {
			t.Error(p, err)
		}
	}
	record, _ := frame.Encode([]byte("123"))
	spoilt := slices.Clone(record)
	spoilt[9] ^= 1
	for name, b := range map[string][]byte{
		"nothing":       nil,
		"a few":         {1, 2, 3},
		"torn":          record[:len(record)-1],
		"spoilt":        spoilt,
		"one more byte": append(slices.Clone(record), 0),
		"two records":   append(slices.Clone(record), record...),
	} {
		d.Append(name, b)
		if p, err := keep.Load(d, name); err != api.ErrForm || len(p) != 0 {
			t.Errorf("%s: %q, %v", name, p, err)
		}
	}
	d.Append("good", record)
	holds(t, d, "good", "123")
}

// P4.3
func TestClear(t *testing.T) {
	names := []string{"a", "ab", "abc", "ab~", "b", "ba"}
	full := func() *disk.Disk {
		d := fresh(t, 1000)
		for _, name := range names {
			d.Append(name, []byte("x"))
		}
		return d
	}
	for _, c := range []struct {
		prefix string
		stay   []string
		left   []string
	}{
		{"ab", nil, []string{"a", "b", "ba"}},
		{"ab", []string{"abc", "b", "none"}, []string{"a", "abc", "b", "ba"}},
		{"", []string{"ab"}, []string{"ab"}},
		{"c", nil, names},
		{"a", []string{"a", "ab", "ab~", "abc"}, names},
	} {
		d := full()
		want(t, "Clear", keep.Clear(d, c.prefix, c.stay...), api.OK)
		if got := d.List(); !slices.Equal(got, c.left) {
			t.Errorf("Clear(%q, %q): %q, not %q", c.prefix, c.stay, got, c.left)
		}
	}
	d := full()
	d.Fuse(2)
	want(t, "a fuse that burns", keep.Clear(d, "a", "ab"), api.ErrDead)
	if got := d.List(); !slices.Equal(got, []string{"ab", "ab~", "b", "ba"}) {
		t.Errorf("by names up to the first error: %q", got)
	}
	want(t, "nothing to do on a dead disk", keep.Clear(d, "q"), api.OK)
	want(t, "no disk", keep.Clear(nil, "a"), api.ErrArg)
}

// P4.4
func TestWhateverTheFuse(t *testing.T) {
	for fuse := range 10 {
		for _, draw := range []int{0, 1, 7, 1000} {
			d := fresh(t, 1000)
			sure, last := "", ""
			d.Fuse(fuse)
			for i := range 4 {
				last = fmt.Sprint("row ", i)
				if keep.Save(d, "a", []byte(last)) != api.OK {
					break
				}
				sure = last
			}
			d.Crash(draw)
			p, err := keep.Load(d, "a")
			if sure == "" && err == api.ErrNone {
				continue
			}
			if err != api.OK || string(p) != sure && string(p) != last {
				t.Errorf("fuse %d, draw %d: %q, %v, not %q or %q", fuse, draw, p, err, sure, last)
			}
			want(t, "Save behind a crash", keep.Save(d, "a", []byte("z")), api.OK)
			d.Crash(0)
			holds(t, d, "a", "z")
		}
	}
}

func TestNewMemory(t *testing.T) {
	d := fresh(t, 1000)
	room := []byte("abcdef")
	keep.Save(d, "a", room[:2], room[3:4])
	if string(room) != "abcdef" {
		t.Errorf("changed: %q", room)
	}
	copy(room, "zzzzzz")
	holds(t, d, "a", "abd")
	p, _ := keep.Load(d, "a")
	copy(p, "yyy")
	holds(t, d, "a", "abd")
	stay := append(make([]string, 0, 4), "a", "x")
	keep.Clear(d, "", stay...)
	if !slices.Equal(stay[:4], []string{"a", "x", "", ""}) {
		t.Errorf("%q", stay[:4])
	}
}
