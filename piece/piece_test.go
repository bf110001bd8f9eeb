package piece_test

import (
	"bytes"
	"math"
	"math/rand"
	"testing"

	"satrapy/api"
	"satrapy/piece"
)

func some(n int) []byte {
	b := make([]byte, n)
	for i := range b {
		b[i] = byte(i * 7 / 3)
	}
	return b
}

func begin(t *testing.T, size int) *piece.In {
	t.Helper()
	i, err := piece.Begin(size)
	if err != api.OK || i == nil {
		t.Fatal(err)
	}
	return i
}

// P21.1
func TestOut(t *testing.T) {
	row := some(1200)
	o := piece.New(row)
	next := func(offset, end int) {
		t.Helper()
		for range 2 {
			if at, p := o.Next(); at != offset || !bytes.Equal(p, row[offset:end]) {
				t.Errorf("Next: %d and %d bytes, not from %d to %d", at, len(p), offset, end)
			}
		}
	}
	next(0, api.Chunk)
	for _, n := range []int{0, -1, 1201, math.MaxInt, math.MinInt} {
		if o.Ack(n) {
			t.Error("Ack", n)
		}
	}
	next(0, api.Chunk)
	if o.Size() != 1200 || o.Whole() || !o.Ack(3) {
		t.Error("Ack 3")
	}
	next(3, 3+api.Chunk)
	for _, n := range []int{3, 2} {
		if o.Ack(n) {
			t.Error("Ack", n)
		}
	}
	if !o.Ack(4) || !o.Ack(1000) || o.Ack(999) {
		t.Error("Ack 1000")
	}
	next(1000, 1200)
	if !o.Ack(1200) || o.Ack(1200) || !o.Whole() || o.Size() != 1200 {
		t.Error("Ack of all")
	}
	next(1200, 1200)
}

func TestOutOfNothing(t *testing.T) {
	o := piece.New(nil)
	if at, p := o.Next(); at != 0 || len(p) != 0 || !o.Whole() || o.Size() != 0 || o.Ack(0) || o.Ack(1) {
		t.Error(at, p)
	}
}

// P21.2
func TestBegin(t *testing.T) {
	for _, size := range []int{0, -1, 1<<19 + 1, math.MaxInt, math.MinInt} {
		if i, err := piece.Begin(size); err != api.ErrArg || i != nil {
			t.Error(size, err)
		}
	}
	for _, size := range []int{1, 1 << 19} {
		if i := begin(t, size); i.Whole() || len(i.Bytes()) != 0 {
			t.Error(size)
		}
	}
}

func TestTake(t *testing.T) {
	i := begin(t, 5)
	for _, c := range []struct {
		offset int
		p      string
		has    int
		bytes  string
	}{
		{1, "x", 0, ""}, {-1, "x", 0, ""}, {math.MaxInt, "x", 0, ""}, {math.MinInt, "x", 0, ""}, {0, "123456", 0, ""}, {0, "", 0, ""},
		{0, "ab", 2, "ab"}, {0, "ab", 2, "ab"}, {1, "b", 2, "ab"}, {3, "d", 2, "ab"}, {2, "cdef", 2, "ab"}, {2, "", 2, "ab"},
		{2, "cd", 4, "abcd"}, {4, "e", 5, "abcde"}, {5, "", 5, "abcde"}, {5, "f", 5, "abcde"},
	} {
		if n := i.Take(c.offset, []byte(c.p)); n != c.has || string(i.Bytes()) != c.bytes || i.Whole() != (c.has == 5) {
			t.Errorf("Take(%d, %q): %d, %q, whole %v", c.offset, c.p, n, i.Bytes(), i.Whole())
		}
	}
}

// P21.3
func TestAllComes(t *testing.T) {
	draw := rand.New(rand.NewSource(13))
	for range 60 {
		row := some(1 + draw.Intn(6000))
		o, i := piece.New(row), begin(t, len(row))
		type told struct {
			offset int
			p      []byte
		}
		var there []told
		var back []int
		for n := 0; !o.Whole(); n++ {
			if n > 100000 {
				t.Fatal("it does not end")
			}
			switch draw.Intn(3) {
			case 0:
				offset, p := o.Next()
				there = append(there, told{offset, p})
			case 1:
				if len(there) > 0 {
					x := there[max(0, len(there)-1-draw.Intn(4))]
					back = append(back, i.Take(x.offset, x.p))
				}
			case 2:
				if len(back) > 0 {
					ack := o.Ack
					ack(back[max(0, len(back)-1-draw.Intn(4))])
				}
			}
		}
		if !i.Whole() || !bytes.Equal(i.Bytes(), row) {
			t.Fatal("other bytes have come")
		}
	}
}

func TestNewMemory(t *testing.T) {
	row := append(make([]byte, 0, 9), "abc"...)
	o := piece.New(row)
	row[0] = 'x'
	_, p := o.Next()
	p[1] = 'y'
	_ = append(p[:1], "zz"...)
	if _, p := o.Next(); string(p) != "abc" || row[:4][3] != 0 {
		t.Errorf("%q", p)
	}
	i := begin(t, 3)
	half := append(make([]byte, 0, 9), "ab"...)
	i.Take(0, half)
	half[0] = 'x'
	got := i.Bytes()
	got[1] = 'y'
	_ = append(got, 'z')
	i.Take(2, []byte("c"))
	if string(i.Bytes()) != "abc" || string(got) != "ay" || half[:3][2] != 0 {
		t.Errorf("%q %q", i.Bytes(), got)
	}
}

func TestNil(t *testing.T) {
	var o *piece.Out
	if at, p := o.Next(); at != 0 || len(p) != 0 || o.Ack(1) || o.Whole() || o.Size() != 0 {
		t.Error("a nil Out")
	}
	var i *piece.In
	if i.Take(0, []byte("a")) != 0 || i.Whole() || len(i.Bytes()) != 0 {
		t.Error("a nil In")
	}
}
