package frame_test

import (
	"bytes"
	"encoding/binary"
	"hash/crc32"
	"math/rand"
	"testing"

	"satrapy/api"
	"satrapy/frame"
)

// record is what the document says a record is, made without the package.
func record(p []byte) []byte {
	b := binary.LittleEndian.AppendUint32(nil, uint32(len(p)))
	b = binary.LittleEndian.AppendUint32(b, crc32.ChecksumIEEE(b))
	b = append(b, p...)
	return binary.LittleEndian.AppendUint32(b, crc32.ChecksumIEEE(b))
}

// headOf is a right head that tells of n bytes.
func headOf(n uint32) []byte {
	b := binary.LittleEndian.AppendUint32(nil, n)
	return binary.LittleEndian.AppendUint32(b, crc32.ChecksumIEEE(b))
}

// P2.1
func TestEncode(t *testing.T) {
	for _, c := range []struct {
		rows [][]byte
		want string
	}{
		{nil, ""},
		{[][]byte{nil, {}}, ""},
		{[][]byte{[]byte("abc")}, "abc"},
		{[][]byte{[]byte("ab"), nil, []byte("c")}, "abc"},
	} {
		b, err := frame.Encode(c.rows...)
		if err != api.OK || !bytes.Equal(b, record([]byte(c.want))) {
			t.Errorf("%q: % x, %v", c.rows, b, err)
		}
	}
	if b, err := frame.Encode(); err != api.OK || len(b) != 12 {
		t.Error("of nothing:", len(b), err)
	}
}

func TestEncodeLong(t *testing.T) {
	most := make([]byte, api.MaxFrame)
	most[5] = 9
	b, err := frame.Encode(most[:100], most[100:])
	if err != api.OK || !bytes.Equal(b, record(most)) {
		t.Fatal("just MaxFrame bytes", err)
	}
	if p, n, err := frame.Decode(b); err != api.OK || n != len(b) || !bytes.Equal(p, most) {
		t.Error("back", n, err)
	}
	for _, rows := range [][][]byte{{most, {1}}, {{1}, most}, {append(most, 1)}} {
		if b, err := frame.Encode(rows...); err != api.ErrLong || len(b) != 0 {
			t.Error("one more", len(b), err)
		}
	}
}

func TestDecodeErrsInOrder(t *testing.T) {
	good := record([]byte("abcd"))
	turned := func(at int) []byte {
		b := bytes.Clone(good)
		b[at] ^= 1
		return b
	}
	long := append(headOf(api.MaxFrame+1), make([]byte, 20)...)
	huge := append(headOf(0xffffffff), make([]byte, 20)...)
	badHuge := bytes.Clone(huge)
	badHuge[4] ^= 1
	for name, c := range map[string]struct {
		b    []byte
		want api.Errno
	}{
		"nothing":                          {nil, api.ErrShort},
		"seven bytes":                      {good[:7], api.ErrShort},
		"seven bytes of a wrong head":      {turned(0)[:7], api.ErrShort},
		"a wrong length":                   {turned(0), api.ErrSum},
		"a wrong sum of the length":        {turned(5), api.ErrSum},
		"a wrong head that is all":         {turned(0)[:8], api.ErrSum},
		"too long":                         {long, api.ErrLong},
		"too long, nothing behind":         {headOf(api.MaxFrame + 1), api.ErrLong},
		"far too long":                     {huge, api.ErrLong},
		"far too long, a wrong sum":        {badHuge, api.ErrSum},
		"a head alone":                     {good[:8], api.ErrShort},
		"one byte less":                    {good[:len(good)-1], api.ErrShort},
		"one byte less, and one that errs": {turned(9)[:len(good)-1], api.ErrShort},
		"most, but not there":              {headOf(api.MaxFrame), api.ErrShort},
		"a wrong byte":                     {turned(9), api.ErrSum},
		"a wrong last sum":                 {turned(len(good) - 1), api.ErrSum},
	} {
		p, n, err := frame.Decode(c.b)
		if err != c.want || len(p) != 0 || n != 0 {
			t.Errorf("Decode of %s: %q, %d, %v, not %v", name, p, n, err, c.want)
		}
		if p, err := frame.One(c.b); err != c.want || len(p) != 0 {
			t.Errorf("One of %s: %q, %v, not %v", name, p, err, c.want)
		}
	}
}

func TestOne(t *testing.T) {
	b := record([]byte("abc"))
	if p, err := frame.One(b); err != api.OK || string(p) != "abc" {
		t.Errorf("%q, %v", p, err)
	}
	for _, more := range [][]byte{{0}, record(nil), {1, 2, 3}} {
		if p, err := frame.One(append(bytes.Clone(b), more...)); err != api.ErrForm || len(p) != 0 {
			t.Errorf("with % x behind: %q, %v", more, p, err)
		}
	}
}

// P2.2
func TestScan(t *testing.T) {
	rows := []string{"a", "", "ccc"}
	var all []byte
	for _, r := range rows {
		all = append(all, record([]byte(r))...)
	}
	spoilt := record([]byte("dd"))
	spoilt[9] ^= 4
	whole := len(all)
	for name, tail := range map[string][]byte{
		"nothing":               nil,
		"a torn head":           {1, 2},
		"a torn record":         record([]byte("dd"))[:11],
		"a spoilt record":       spoilt,
		"a spoilt one and more": append(bytes.Clone(spoilt), record([]byte("e"))...),
	} {
		got, n := frame.Scan(append(bytes.Clone(all), tail...))
		if n != whole || len(got) != len(rows) {
			t.Fatalf("with %s behind: %q, %d", name, got, n)
		}
		for i, r := range rows {
			if string(got[i]) != r {
				t.Errorf("with %s behind: %q", name, got)
			}
		}
	}
	for _, b := range [][]byte{nil, {1}, spoilt} {
		if got, n := frame.Scan(b); len(got) != 0 || n != 0 {
			t.Errorf("of % x: %q, %d", b, got, n)
		}
	}
}

// P2.3
func TestDecodeOfEncode(t *testing.T) {
	draw := rand.New(rand.NewSource(3))
	for range 200 {
		p := make([]byte, draw.Intn(300))
		more := make([]byte, draw.Intn(30))
		draw.Read(p)
		draw.Read(more)
		b, err := frame.Encode(p)
		if err != api.OK {
			t.Fatal(err)
		}
		got, n, err := frame.Decode(append(bytes.Clone(b), more...))
		if err != api.OK || n != len(b) || !bytes.Equal(got, p) {
			t.Fatalf("% x, %d, %v", got, n, err)
		}
	}
}

func TestOneByteIsEnoughToRefuse(t *testing.T) {
	b := record([]byte("abc"))
	for i := range b {
		for by := 1; by < 256; by++ {
			b[i] ^= byte(by)
			if p, _, err := frame.Decode(b); err == api.OK || len(p) != 0 {
				t.Fatal(i, by)
			}
			if rows, n := frame.Scan(b); len(rows) != 0 || n != 0 {
				t.Fatal(i, by)
			}
			b[i] ^= byte(by)
		}
	}
}

func TestNewMemory(t *testing.T) {
	room := []byte("abcdefgh")
	b, _ := frame.Encode(room[:2], room[4:5])
	if string(room) != "abcdefgh" {
		t.Errorf("changed: %q", room)
	}
	two := append(bytes.Clone(b), b...)
	was := bytes.Clone(two)
	p, _, _ := frame.Decode(two)
	rows, _ := frame.Scan(two)
	one, _ := frame.One(b)
	for _, x := range [][]byte{p, rows[0], one} {
		for i := range x {
			x[i] = '-'
		}
		_ = append(x, "------------------------"...)
	}
	if !bytes.Equal(two, was) || string(rows[1]) != "abe" {
		t.Errorf("shared: %q, %q", two, rows[1])
	}
}
