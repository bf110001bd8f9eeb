package ledger_test

import (
	"bytes"
	"fmt"
	"math"
	"slices"
	"strings"
	"testing"

	"satrapy/api"
	"satrapy/disk"
	"satrapy/frame"
	"satrapy/keep"
	"satrapy/ledger"
	"satrapy/octet"
)

const top = 1 << 40

func fresh(t *testing.T) *disk.Disk {
	t.Helper()
	d, err := disk.New(1 << 22)
	if err != api.OK {
		t.Fatal(err)
	}
	return d
}

func open(t *testing.T, d *disk.Disk) *ledger.Ledger {
	t.Helper()
	l, err := ledger.Open(d, "p")
	if err != api.OK || l == nil {
		t.Fatal("Open:", err)
	}
	return l
}

func want(t *testing.T, what string, got, want api.Errno) {
	t.Helper()
	if got != want {
		t.Errorf("%s: %v, not %v", what, got, want)
	}
}

// state is all that a ledger says.
func state(l *ledger.Ledger) string {
	index, data := l.Base()
	s := fmt.Sprint(index, " ", string(data), " to ", l.Last())
	for i := index + 1; i <= l.Last(); i++ {
		p, err := l.At(i)
		s += fmt.Sprint(" | ", string(p), " ", int(err))
	}
	return s
}

func numbered(number int, p string) []byte {
	var w octet.Writer
	w.Nums(number)
	w.Bytes([]byte(p))
	return w.Out()
}

func records(rows ...[]byte) []byte {
	var all []byte
	for _, r := range rows {
		b, _ := frame.Encode(r)
		all = append(all, b...)
	}
	return all
}

// P14.1
func TestOpenErrArg(t *testing.T) {
	d := fresh(t)
	for name, err := range map[string]api.Errno{
		"no disk":       errOf(ledger.Open(nil, "p")),
		"no prefix":     errOf(ledger.Open(d, "")),
		"a long prefix": errOf(ledger.Open(d, strings.Repeat("p", 21))),
	} {
		want(t, name, err, api.ErrArg)
	}
	want(t, "a prefix of 20", errOf(ledger.Open(d, strings.Repeat("p", 20))), api.OK)
	if s := state(open(t, d)); s != "0  to 0" || len(d.List()) != 0 {
		t.Error("a new one:", s, d.List())
	}
}

func errOf(l *ledger.Ledger, err api.Errno) api.Errno {
	if (l == nil) == (err == api.OK) {
		return -1
	}
	return err
}

func TestOpenErrForm(t *testing.T) {
	one, two := numbered(1, "x"), numbered(2, "y")
	for name, rows := range map[string][][]byte{
		"nothing":            {{}},
		"more behind":        {append(slices.Clone(one), 0)},
		"less":               {one[:2]},
		"number 0":           {numbered(0, "x")},
		"a great number":     {numbered(top+1, "x")},
		"not the first":      {two},
		"one is left out":    {one, two, numbered(4, "z")},
		"twice":              {one, one},
		"falling":            {one, two, one},
		"a great one behind": {numbered(top, "x"), numbered(top+1, "x")},
	} {
		d := fresh(t)
		d.Append("p-log", records(rows...))
		want(t, name, errOf(ledger.Open(d, "p")), api.ErrForm)
	}
	for name, img := range map[string][]byte{
		"nothing":        {},
		"less":           numbered(3, "xyz")[:3],
		"more":           append(numbered(3, "xyz"), 0),
		"a great number": numbered(top+1, "xyz"),
	} {
		d := fresh(t)
		keep.Save(d, "p-img", img)
		want(t, "an image: "+name, errOf(ledger.Open(d, "p")), api.ErrForm)
	}
	d := fresh(t)
	d.Append("p-img", []byte("no record"))
	want(t, "an image that is no record", errOf(ledger.Open(d, "p")), api.ErrForm)
	for name, rows := range map[string][][]byte{
		"behind a hole":           {numbered(7, "x")},
		"a hole among those past": {numbered(3, "x"), numbered(5, "x")},
		"a hole at the image":     {numbered(5, "x"), numbered(7, "x")},
	} {
		d := fresh(t)
		keep.Save(d, "p-img", numbered(5, "i"))
		d.Append("p-log", records(rows...))
		want(t, name, errOf(ledger.Open(d, "p")), api.ErrForm)
	}
}

func TestOpenOfLogs(t *testing.T) {
	for name, c := range map[string]struct {
		img  []byte
		rows [][]byte
		want string
		log  bool
	}{
		"an image alone":        {numbered(5, "i"), nil, "5 i to 5", false},
		"an image of number 0":  {numbered(0, "i"), nil, "0 i to 0", false},
		"an image at the bound": {numbered(top, ""), nil, "1099511627776  to 1099511627776", false},
		"a log at the bound":    {numbered(top-1, ""), [][]byte{numbered(top, "a")}, "1099511627775  to 1099511627776 | a 0", true},
		"a log alone":           {nil, [][]byte{numbered(1, "a"), numbered(2, "")}, "0  to 2 | a 0 |  0", true},
		"both":                  {numbered(5, "i"), [][]byte{numbered(6, "a"), numbered(7, "b")}, "5 i to 7 | a 0 | b 0", true},
		"some are past":         {numbered(5, "i"), [][]byte{numbered(4, "z"), numbered(5, "y"), numbered(6, "a")}, "5 i to 6 | a 0", true},
		"all are past":          {numbered(5, "i"), [][]byte{numbered(2, "z"), numbered(3, "y")}, "5 i to 5", false},
		"an empty log":          {nil, [][]byte{}, "0  to 0", false},
	} {
		d := fresh(t)
		if c.img != nil {
			keep.Save(d, "p-img", c.img)
		}
		if c.rows != nil {
			d.Append("p-log", records(c.rows...))
		}
		for range 2 {
			if s := state(open(t, d)); s != c.want {
				t.Errorf("%s: %s, not %s", name, s, c.want)
			}
			if slices.Contains(d.List(), "p-log") != c.log {
				t.Error(name, d.List())
			}
		}
	}
}

func TestOpenCutsTheTail(t *testing.T) {
	good := records(numbered(1, "a"), numbered(2, "b"))
	more := records(numbered(3, "c"))
	spoilt := slices.Clone(more)
	spoilt[10] ^= 1
	for name, tail := range map[string][]byte{"torn": more[:5], "nearly whole": more[:len(more)-1], "spoilt": append(spoilt, more...)} {
		d := fresh(t)
		d.Append("p-log", good, tail)
		d.Append("p-img~", []byte("left"))
		d.Append("q-img~", nil)
		d.Fuse(3)
		l := open(t, d)
		want(t, "Remove, Truncate, Sync", d.Append("q"), api.ErrDead)
		d.Crash(0)
		if b, _ := d.Read("p-log"); !bytes.Equal(b, good) || !slices.Equal(d.List(), []string{"p-log", "q-img~"}) || state(l) != "0  to 2 | a 0 | b 0" {
			t.Errorf("%s: % x, %q", name, b, d.List())
		}
	}
	d := fresh(t)
	d.Append("p-log", more[:5])
	open(t, d)
	if len(d.List()) != 0 {
		t.Error("a log of no whole record:", d.List())
	}
	d.Append("p-log", good, more[:5])
	d.Fuse(1)
	want(t, "an error of the disk", errOf(ledger.Open(d, "p")), api.ErrDead)
	d.Fuse(-1)
	open(t, d)
	d.Fuse(0)
	open(t, d) // nothing is to be done
}

// P14.2
func TestAppend(t *testing.T) {
	d := fresh(t)
	l := open(t, d)
	d.Fuse(4)
	for i, p := range []string{"a", ""} {
		if n, err := l.Append([]byte(p)); n != i+1 || err != api.OK {
			t.Error(n, err)
		}
	}
	want(t, "Append and Sync each", d.Append("q"), api.ErrDead)
	if b, _ := d.Read("p-log"); !bytes.Equal(b, records(numbered(1, "a"), numbered(2, ""))) {
		t.Errorf("% x", b)
	}
	d.Crash(0)
	l = open(t, d)
	if n, err := l.Append(make([]byte, 1<<16+1)); n != 0 || err != api.ErrLong {
		t.Error(n, err)
	}
	if n, err := l.Append(make([]byte, 1<<16)); n != 3 || err != api.OK {
		t.Error("ErrLong does not end it:", n, err)
	}
	want(t, "Write", l.Write(top-1, nil), api.OK)
	if n, err := l.Append(nil); n != top || err != api.OK {
		t.Error(n, err)
	}
	if n, err := l.Append(nil); n != 0 || err != api.ErrLong {
		t.Error(n, err)
	}
}

func TestWrite(t *testing.T) {
	d := fresh(t)
	l := open(t, d)
	l.Append([]byte("a"))
	l.Append([]byte("b"))
	for _, index := range []int{1, 0, -1, math.MinInt, top + 1, math.MaxInt} {
		want(t, "Write", l.Write(index, nil), api.ErrArg)
		want(t, "Write of too much", l.Write(index, make([]byte, 1<<19+1)), api.ErrArg)
	}
	want(t, "Write of too much", l.Write(2, make([]byte, 1<<19+1)), api.ErrLong)
	d.Fuse(4)
	want(t, "Write", l.Write(2, []byte("img")), api.OK)
	want(t, "Append, Sync, Rename, Remove", d.Append("q"), api.ErrDead)
	if s := state(l); s != "2 img to 2" || !slices.Equal(d.List(), []string{"p-img"}) {
		t.Error(s, d.List())
	}
	d.Crash(0)
	if b, err := keep.Load(d, "p-img"); err != api.OK || !bytes.Equal(b, numbered(2, "img")) {
		t.Errorf("% x, %v", b, err)
	}
	if n, err := l.Append([]byte("c")); n != 3 || err != api.OK {
		t.Error(n, err)
	}
	want(t, "beyond", l.Write(9, make([]byte, 1<<19)), api.OK)
	want(t, "the same number", l.Write(9, []byte("more")), api.OK)
	if s := state(open(t, d)); s != "9 more to 9" {
		t.Error(s)
	}
	want(t, "at the bound", l.Write(top, nil), api.OK)
}

func TestDrop(t *testing.T) {
	d := fresh(t)
	l := open(t, d)
	l.Write(3, []byte("img"))
	l.Append([]byte("a"))
	d.Append("q", nil)
	d.Fuse(2)
	want(t, "Drop", l.Drop(), api.OK)
	want(t, "two Removes", d.Append("q"), api.ErrDead)
	d.Fuse(-1)
	if !slices.Equal(d.List(), []string{"q"}) {
		t.Error(d.List())
	}
	isDead(t, l)
	if s := state(open(t, d)); s != "0  to 0" {
		t.Error(s)
	}
	l = open(t, d)
	l.Append([]byte("a"))
	d.Fuse(1)
	want(t, "the log is Removed first", l.Drop(), api.OK)
	l = open(t, fresh(t))
	want(t, "Drop of nothing", l.Drop(), api.OK)
	isDead(t, l)
	d = fresh(t)
	l = open(t, d)
	l.Write(3, []byte("img"))
	l.Append([]byte("a"))
	d.Fuse(1)
	want(t, "Drop", l.Drop(), api.ErrDead)
	if !slices.Equal(d.List(), []string{"p-img"}) {
		t.Error(d.List())
	}
	isDead(t, l)
}

func isDead(t *testing.T, l *ledger.Ledger) {
	t.Helper()
	if n, err := l.Append(make([]byte, 1<<17)); n != 0 || err != api.ErrDead {
		t.Error("Append of a dead one", n, err)
	}
	want(t, "Write of a dead one", l.Write(-1, nil), api.ErrDead)
	want(t, "Drop of a dead one", l.Drop(), api.ErrDead)
}

func TestDead(t *testing.T) {
	for name, c := range map[string]struct {
		f     func(l *ledger.Ledger) api.Errno
		steps int
	}{
		"Append": {func(l *ledger.Ledger) api.Errno { _, err := l.Append([]byte("z")); return err }, 2},
		"Write":  {func(l *ledger.Ledger) api.Errno { return l.Write(9, []byte("z")) }, 4},
	} {
		for fuse := range c.steps + 1 {
			d := fresh(t)
			l := open(t, d)
			l.Append([]byte("a"))
			d.Fuse(fuse)
			err := c.f(l)
			d.Fuse(-1)
			if fuse == c.steps {
				want(t, name, err, api.OK)
				want(t, "it lives", l.Write(20, nil), api.OK)
				continue
			}
			want(t, name, err, api.ErrDead)
			isDead(t, l)
		}
	}
	for fuse := range 2 {
		d := fresh(t)
		l := open(t, d)
		d.Fuse(fuse)
		if n, err := l.Append([]byte("z")); n != 0 || err != api.ErrDead {
			t.Error(n, err)
		}
	}
	small, _ := disk.New(60)
	l := open(t, small)
	if n, err := l.Append(make([]byte, 100)); n != 0 || err != api.ErrFull {
		t.Error(n, err)
	}
	isDead(t, l)
}

// P14.3
func TestReading(t *testing.T) {
	l := open(t, fresh(t))
	if index, data := l.Base(); index != 0 || len(data) != 0 || l.Last() != 0 {
		t.Error(index, data)
	}
	l.Write(4, []byte("img"))
	l.Append([]byte("a"))
	l.Append([]byte("b"))
	for _, i := range []int{4, 0, 7, -1, math.MinInt, math.MaxInt} {
		if p, err := l.At(i); len(p) != 0 || err != api.ErrNone {
			t.Error(i, p, err)
		}
	}
	if p, err := l.At(6); string(p) != "b" || err != api.OK {
		t.Error(p, err)
	}
	if index, data := l.Base(); index != 4 || string(data) != "img" || l.Last() != 6 {
		t.Error(index, data)
	}
}

// P14.4
func TestBehindAnyCrash(t *testing.T) {
	var steps []func(l *ledger.Ledger) api.Errno
	lay := func(p string) {
		steps = append(steps, func(l *ledger.Ledger) api.Errno { _, err := l.Append([]byte(p)); return err })
	}
	write := func(by int, p string) {
		steps = append(steps, func(l *ledger.Ledger) api.Errno { return l.Write(l.Last()+by, []byte(p)) })
	}
	lay("one")
	lay("two")
	write(0, "first image")
	lay("three")
	write(0, "second image")
	write(5, "third image")
	lay("four")
	lay("five")
	write(0, "fourth image")
	lay("six")

	l := open(t, fresh(t))
	states := []string{state(l)}
	for _, f := range steps {
		want(t, "a step", f(l), api.OK)
		states = append(states, state(l))
	}
	for fuse := range 45 {
		for draw := range 50 {
			d := fresh(t)
			l := open(t, d)
			d.Fuse(fuse)
			done := 0
			for done < len(steps) && steps[done](l) == api.OK {
				done++
			}
			may := states[done:min(done+2, len(states))]
			d.Crash(draw)
			d.Fuse(draw % 4) // within an Open, too
			if l, err := ledger.Open(d, "p"); err == api.OK && !slices.Contains(may, state(l)) {
				t.Fatalf("fuse %d, draw %d: %s is none of %q", fuse, draw, state(l), may)
			}
			d.Crash(draw)
			if s := state(open(t, d)); !slices.Contains(may, s) {
				t.Fatalf("fuse %d, draw %d: %s is none of %q", fuse, draw, s, may)
			}
		}
	}
}

func TestNewMemory(t *testing.T) {
	d := fresh(t)
	l := open(t, d)
	data := append(make([]byte, 0, 9), "img"...)
	l.Write(1, data)
	p := append(make([]byte, 0, 9), "abc"...)
	l.Append(p)
	data[0], p[0] = 'x', 'x'
	if data[:4][3] != 0 || p[:4][3] != 0 || state(l) != "1 img to 2 | abc 0" {
		t.Error(state(l))
	}
	_, b := l.Base()
	e, _ := l.At(2)
	clear(b)
	clear(e)
	if s := state(l); s != "1 img to 2 | abc 0" {
		t.Error(s)
	}
	if s := state(open(t, d)); s != "1 img to 2 | abc 0" {
		t.Error(s)
	}
}

func TestNilLedger(t *testing.T) {
	var l *ledger.Ledger
	if n, err := l.Append(nil); n != 0 || err != api.ErrArg {
		t.Error(n, err)
	}
	want(t, "Write", l.Write(1, nil), api.ErrArg)
	want(t, "Drop", l.Drop(), api.ErrArg)
	if p, err := l.At(0); len(p) != 0 || err != api.ErrNone {
		t.Error(p, err)
	}
	if s := state(l); s != "0  to 0" {
		t.Error(s)
	}
}
