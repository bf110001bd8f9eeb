package octet_test

import (
	"bytes"
	"hash/crc32"
	"math"
	"math/rand"
	"testing"

	"satrapy/octet"
)

const top = 1 << 62

func laid(f func(w *octet.Writer)) []byte {
	var w octet.Writer
	f(&w)
	return w.Out()
}

// P1.1
func TestNumsLaysEachInSevens(t *testing.T) {
	for _, c := range []struct {
		n    int
		want []byte
	}{
		{0, []byte{0}},
		{1, []byte{1}},
		{127, []byte{0x7f}},
		{128, []byte{0x80, 1}},
		{300, []byte{0xac, 2}},
		{16383, []byte{0xff, 0x7f}},
		{16384, []byte{0x80, 0x80, 1}},
		{-1, []byte{0}},
		{math.MinInt, []byte{0}},
		{top - 1, []byte{0xff, 0xff, 0xff, 0xff, 0xff, 0xff, 0xff, 0xff, 0x3f}},
		{top, []byte{0x80, 0x80, 0x80, 0x80, 0x80, 0x80, 0x80, 0x80, 0x40}},
		{top + 1, []byte{0x80, 0x80, 0x80, 0x80, 0x80, 0x80, 0x80, 0x80, 0x40}},
		{math.MaxInt, []byte{0x80, 0x80, 0x80, 0x80, 0x80, 0x80, 0x80, 0x80, 0x40}},
	} {
		if b := laid(func(w *octet.Writer) { w.Nums(c.n) }); !bytes.Equal(b, c.want) {
			t.Errorf("Nums(%d) laid % x, not % x", c.n, b, c.want)
		}
	}
}

func TestVariadicLaysOneBehindTheOther(t *testing.T) {
	at := laid(func(w *octet.Writer) {
		w.Nums(1, 300)
		w.Bytes([]byte("a"), nil, []byte("bc"))
		w.Raw(0x80, 9)
		w.Nums()
		w.Bytes()
		w.Raw()
	})
	each := laid(func(w *octet.Writer) {
		w.Nums(1)
		w.Nums(300)
		w.Bytes([]byte("a"))
		w.Bytes([]byte{})
		w.Bytes([]byte("bc"))
		w.Raw(0x80)
		w.Raw(9)
	})
	want := []byte{1, 0xac, 2, 1, 'a', 0, 2, 'b', 'c', 0x80, 9}
	if !bytes.Equal(at, want) || !bytes.Equal(each, want) {
		t.Errorf("% x and % x, not % x", at, each, want)
	}
}

func TestBytesTellsLongRowsInSevens(t *testing.T) {
	row := bytes.Repeat([]byte{7}, 200)
	want := append([]byte{0xc8, 1}, row...)
	if b := laid(func(w *octet.Writer) { w.Bytes(row) }); !bytes.Equal(b, want) {
		t.Errorf("% x", b[:3])
	}
}

func TestOutIsNewMemoryEachTime(t *testing.T) {
	var w octet.Writer
	if len(w.Out()) != 0 {
		t.Error("a Writer that laid nothing has something")
	}
	w.Nums(1, 2, 3)
	a, b := w.Out(), w.Out()
	a[0] = 99
	_ = append(a[:1], 98, 97)
	if !bytes.Equal(b, []byte{1, 2, 3}) || !bytes.Equal(w.Out(), []byte{1, 2, 3}) {
		t.Errorf("changed by another answer: % x, % x", b, w.Out())
	}
	_ = append(b, 55)
	w.Raw(4)
	if !bytes.Equal(b, []byte{1, 2, 3}) || !bytes.Equal(w.Out(), []byte{1, 2, 3, 4}) {
		t.Errorf("% x, % x", b, w.Out())
	}
}

// P1.2
func TestReaderTakesInOrder(t *testing.T) {
	r := octet.NewReader([]byte{5, 0xac, 2, 2, 'h', 'i', 0, 9, 8, 7})
	if r.Left() != 10 || !r.Good() || r.Whole() {
		t.Error("at the beginning", r.Left())
	}
	if n := r.Num(); n != 5 || r.Left() != 9 {
		t.Error("Num", n)
	}
	if n := r.Num(); n != 300 {
		t.Error("Num", n)
	}
	if b := r.Bytes(); string(b) != "hi" {
		t.Errorf("Bytes %q", b)
	}
	if b := r.Bytes(); len(b) != 0 || !r.Good() {
		t.Errorf("Bytes of none %q", b)
	}
	if b := r.Raw(0); len(b) != 0 || !r.Good() || r.Left() != 3 {
		t.Errorf("Raw of none %q", b)
	}
	if b := r.Raw(2); !bytes.Equal(b, []byte{9, 8}) || r.Whole() {
		t.Errorf("Raw % x", b)
	}
	if n := r.Num(); n != 7 || !r.Whole() || !r.Good() || r.Left() != 0 {
		t.Error("the last", n)
	}
	if n := r.Num(); n != 0 || r.Good() || r.Whole() {
		t.Error("behind the end", n)
	}
}

func TestNumsTakesIntoPlaces(t *testing.T) {
	a, b, c := -1, -1, -1
	r := octet.NewReader([]byte{1, 2, 3, 4})
	r.Nums(&a, nil, &b)
	if a != 1 || b != 3 || r.Left() != 1 {
		t.Error(a, b, r.Left())
	}
	r.Nums()
	if r.Left() != 1 {
		t.Error("Nums of no place took something")
	}
	r.Nums(&a, &b, &c)
	if a != 4 || b != 0 || c != 0 || r.Good() {
		t.Error("beyond the end", a, b, c)
	}
}

func TestNumErrs(t *testing.T) {
	full := bytes.Repeat([]byte{0xff}, 9)
	for name, b := range map[string][]byte{
		"nothing":                       nil,
		"ends too early":                {0x80},
		"ends too early, late":          bytes.Repeat([]byte{0x81}, 9),
		"last of two is 0":              {0x81, 0},
		"last of three is 0":            {0xff, 0x80, 0},
		"last of nine is 0":             {0x80, 0x80, 0x80, 0x80, 0x80, 0x80, 0x80, 0x80, 0},
		"ten above 7f":                  append(bytes.Repeat([]byte{0x80}, 10), 1),
		"eleven":                        append(bytes.Repeat([]byte{0x80}, 11), 1),
		"ten bytes, above 2^62":         append(bytes.Repeat([]byte{0x80}, 9), 1),
		"ten bytes, full":               append(full, 0x7f),
		"ten bytes, last is 0":          append(bytes.Repeat([]byte{0x80}, 9), 0),
		"2^62 and 1":                    {0x81, 0x80, 0x80, 0x80, 0x80, 0x80, 0x80, 0x80, 0x40},
		"2^63 less 1":                   {0xff, 0xff, 0xff, 0xff, 0xff, 0xff, 0xff, 0xff, 0x7f},
		"twice 2^61 and something more": {0x80, 0x80, 0x80, 0x80, 0x80, 0x80, 0x80, 0x80, 0x41},
	} {
		r := octet.NewReader(b)
		if n := r.Num(); n != 0 || r.Good() || r.Whole() || r.Left() != 0 {
			t.Errorf("%s: %d, good %v, left %d", name, n, r.Good(), r.Left())
		}
		if len(b) < 2 || b[0] < 0x80 {
			continue
		}
		r = octet.NewReader(append(bytes.Clone(b), 0x80, 0x80))
		if n := r.Num(); n != 0 || r.Good() {
			t.Errorf("%s, with more behind: %d", name, n)
		}
	}
	r := octet.NewReader([]byte{0x80, 0x80, 0x80, 0x80, 0x80, 0x80, 0x80, 0x80, 0x40})
	if n := r.Num(); n != top || !r.Whole() {
		t.Error("2^62", n)
	}
}

func TestRowsErr(t *testing.T) {
	for name, f := range map[string]func(r *octet.Reader) []byte{
		"a row that tells more than is left": func(r *octet.Reader) []byte { return r.Bytes() },
		"Raw of more than is left":           func(r *octet.Reader) []byte { return r.Raw(5) },
		"Raw of very many":                   func(r *octet.Reader) []byte { return r.Raw(math.MaxInt) },
		"Raw of less than 0":                 func(r *octet.Reader) []byte { return r.Raw(-1) },
		"Raw of very few":                    func(r *octet.Reader) []byte { return r.Raw(math.MinInt) },
		"Bad":                                func(r *octet.Reader) []byte { r.Bad(); return nil },
	} {
		r := octet.NewReader([]byte{4, 1, 2, 3})
		if b := f(r); len(b) != 0 || r.Good() || r.Whole() {
			t.Errorf("%s: % x", name, b)
		}
		n := 7
		r.Nums(&n)
		if r.Left() != 0 || r.Num() != 0 || n != 0 || len(r.Bytes()) != 0 || len(r.Raw(1)) != 0 || len(r.Raw(0)) != 0 {
			t.Errorf("%s: something is taken behind an error", name)
		}
		if r.Bad(); r.Good() || r.Whole() {
			t.Errorf("%s: good again", name)
		}
	}
	r := octet.NewReader([]byte{0x80, 0x80, 0x80, 0x80, 0x80, 0x80, 0x80, 0x80, 0x40, 1})
	if b := r.Bytes(); len(b) != 0 || r.Good() {
		t.Error("a row of 2^62")
	}
	if r := octet.NewReader([]byte{3, 1, 2, 3}); len(r.Bytes()) != 3 || !r.Whole() {
		t.Error("a row of just what is left")
	}
	if r := octet.NewReader(nil); !r.Good() || !r.Whole() || r.Left() != 0 {
		t.Error("a Reader of nothing is whole")
	}
}

// P1.3
func TestJoin(t *testing.T) {
	a, b := []byte("ab"), []byte("c")
	j := octet.Join(a, nil, b)
	if string(j) != "abc" || len(octet.Join()) != 0 || len(octet.Join(nil, nil)) != 0 {
		t.Errorf("%q", j)
	}
	one := octet.Join(a)
	one[0] = 'x'
	if string(a) != "ab" {
		t.Error("Join of one row shares its memory")
	}
}

func TestSum(t *testing.T) {
	if s := octet.Sum([]byte("1234"), []byte("56789")); s != 0xcbf43926 {
		t.Errorf("%x", s)
	}
	if octet.Sum() != 0 || octet.Sum(nil, []byte{}) != 0 {
		t.Error("Sum of nothing")
	}
	all := make([]byte, 256)
	for i := range all {
		all[i] = byte(i)
	}
	draw := rand.New(rand.NewSource(1))
	for range 200 {
		b := make([]byte, draw.Intn(600))
		draw.Read(b)
		at := draw.Intn(len(b) + 1)
		if octet.Sum(b[:at], b[at:]) != crc32.ChecksumIEEE(b) {
			t.Errorf("% x", b)
		}
	}
	if octet.Sum(all) != crc32.ChecksumIEEE(all) {
		t.Error("Sum of all bytes")
	}
}

// P1.4
func TestWhatWasLaidIsTaken(t *testing.T) {
	draw := rand.New(rand.NewSource(2))
	for range 300 {
		var w octet.Writer
		var nums []int
		var rows [][]byte
		for range draw.Intn(6) {
			n := draw.Int() >> draw.Intn(63)
			n = min(n, top)
			row := make([]byte, draw.Intn(200))
			draw.Read(row)
			nums, rows = append(nums, n), append(rows, row)
			w.Nums(n)
			w.Bytes(row)
			w.Raw(row...)
		}
		r := octet.NewReader(w.Out())
		for i, n := range nums {
			if got := r.Num(); got != n {
				t.Fatal(got, n)
			}
			if b := r.Bytes(); !bytes.Equal(b, rows[i]) {
				t.Fatalf("% x", b)
			}
			if b := r.Raw(len(rows[i])); !bytes.Equal(b, rows[i]) {
				t.Fatalf("% x", b)
			}
		}
		if !r.Whole() {
			t.Fatal("not whole")
		}
	}
}

func TestOneByteChangesTheSum(t *testing.T) {
	row := []byte("a row of some bytes")
	sum := octet.Sum(row)
	for i := range row {
		for by := 1; by < 256; by++ {
			row[i] ^= byte(by)
			if octet.Sum(row) == sum {
				t.Fatal(i, by)
			}
			row[i] ^= byte(by)
		}
	}
}

func TestNothingHandedInIsKept(t *testing.T) {
	room := []byte("abcdef")
	row := room[:3]
	var w octet.Writer
	w.Bytes(row)
	w.Raw(row...)
	r := octet.NewReader(row)
	_ = octet.Join(row, row)
	_ = octet.Sum(row)
	if string(room) != "abcdef" {
		t.Errorf("changed: %q", room)
	}
	copy(row, "xyz")
	if b := r.Raw(3); string(b) != "abc" {
		t.Errorf("the Reader kept what was handed in: %q", b)
	}
	if string(w.Out()) != "\x03abcabc" {
		t.Errorf("the Writer kept what was handed in: %q", w.Out())
	}
}

func TestWhatIsTakenIsNewMemory(t *testing.T) {
	r := octet.NewReader([]byte{2, 'a', 'b', 2, 'c', 'd', 'e'})
	a := r.Bytes()
	_ = append(a, 'x', 'y', 'z')
	b := r.Bytes()
	_ = append(b, 'x', 'y', 'z')
	c := r.Raw(1)
	if string(a) != "ab" || string(b) != "cd" || string(c) != "e" {
		t.Errorf("%q %q %q", a, b, c)
	}
}

func TestNilObjects(t *testing.T) {
	var w *octet.Writer
	w.Nums(1, 2)
	w.Bytes([]byte("a"))
	w.Raw(1)
	if len(w.Out()) != 0 {
		t.Error("a nil Writer")
	}
	var r *octet.Reader
	n := 5
	r.Nums(&n, nil)
	r.Bad()
	if n != 0 || r.Num() != 0 || len(r.Bytes()) != 0 || len(r.Raw(1)) != 0 || len(r.Raw(-1)) != 0 || r.Left() != 0 || r.Good() || r.Whole() {
		t.Error("a nil Reader")
	}
}
