package purse_test

import (
	"bytes"
	"math"
	"math/rand"
	"testing"

	"satrapy/api"
	"satrapy/octet"
	"satrapy/purse"
)

const most = api.MaxHold

type items = api.Items

// P8.1
func TestIs(t *testing.T) {
	for _, i := range []items{{}, {1, 2, 3, 4}, {most, most, most, most}} {
		if !purse.Is(i) {
			t.Error(i)
		}
	}
	for k := range 4 {
		for _, n := range []int{-1, most + 1, math.MinInt, math.MaxInt} {
			i := items{1, 1, 1, 1}
			i[k] = n
			if purse.Is(i) {
				t.Error(i)
			}
		}
	}
}

func TestOne(t *testing.T) {
	for item := range 4 {
		for _, n := range []int{0, 7, most} {
			var want items
			want[item] = n
			if i, ok := purse.One(item, n); !ok || i != want {
				t.Error(item, n, i, ok)
			}
		}
		for _, n := range []int{-1, most + 1, math.MinInt, math.MaxInt} {
			if i, ok := purse.One(item, n); ok || i != (items{}) {
				t.Error(item, n, i, ok)
			}
		}
	}
	for _, item := range []int{-1, 4, math.MinInt, math.MaxInt} {
		if i, ok := purse.One(item, 1); ok || i != (items{}) {
			t.Error(item, i, ok)
		}
	}
}

// P8.2
func TestAdd(t *testing.T) {
	for _, c := range []struct {
		l    []items
		want items
		ok   bool
	}{
		{nil, items{}, true},
		{[]items{{1, 2, 3, 4}}, items{1, 2, 3, 4}, true},
		{[]items{{1, 2, 3, 4}, {10, 0, 0, 1}, {0, 0, 5, 0}}, items{11, 2, 8, 5}, true},
		{[]items{{most - 1, 0, 0, most}, {1, 0, 0, 0}}, items{most, 0, 0, most}, true},
		{[]items{{most, 0, 0, 0}, {1, 0, 0, 0}}, items{}, false},
		{[]items{{0, 0, 0, 1}, {0, 0, 0, most}}, items{}, false},
		{[]items{{0, -1, 0, 0}}, items{}, false},
		{[]items{{0, most + 1, 0, 0}}, items{}, false},
		{[]items{{0, 5, 0, 0}, {0, -1, 0, 0}}, items{}, false},
		{[]items{{0, math.MaxInt, 0, 0}, {0, math.MinInt, 0, 0}}, items{}, false},
	} {
		if got, ok := purse.Add(c.l...); got != c.want || ok != c.ok {
			t.Error(c, got, ok)
		}
	}
	var many []items
	for range 40 {
		many = append(many, items{most, 0, 0, 0}) // 40 of these would wrap
	}
	if got, ok := purse.Add(many...); ok || got != (items{}) {
		t.Error(got, ok)
	}
}

func TestSub(t *testing.T) {
	for _, c := range []struct {
		a, b, want items
		ok         bool
	}{
		{items{5, 1, 0, 0}, items{3, 0, 0, 0}, items{2, 1, 0, 0}, true},
		{items{5, 1, 2, most}, items{5, 1, 2, most}, items{}, true},
		{items{5, 1, 0, 0}, items{0, 0, 1, 0}, items{}, false},
		{items{5, 1, 0, 0}, items{6, 0, 0, 0}, items{}, false},
		{items{5, -1, 0, 0}, items{}, items{}, false},
		{items{5, 1, 0, 0}, items{0, 0, -1, 0}, items{}, false},
		{items{most + 1, 1, 0, 0}, items{1, 0, 0, 0}, items{}, false},
		{items{0, 0, 0, math.MinInt}, items{0, 0, 0, math.MaxInt}, items{}, false},
	} {
		if got, ok := purse.Sub(c.a, c.b); got != c.want || ok != c.ok {
			t.Error(c, got, ok)
		}
	}
}

func TestLess(t *testing.T) {
	for _, c := range []struct {
		a, b items
		want bool
	}{
		{items{}, items{}, false},
		{items{1, 1, 1, 1}, items{1, 1, 1, 1}, false},
		{items{2, 1, 1, 1}, items{1, 1, 1, 1}, false},
		{items{2, 1, 1, 0}, items{1, 1, 1, 1}, true},
		{items{0, 9, 9, 9}, items{1, 1, 1, 1}, true},
		{items{0, math.MinInt, 0, 0}, items{0, math.MaxInt, 0, 0}, true},
		{items{0, math.MaxInt, 0, 0}, items{0, math.MinInt, 0, 0}, false},
	} {
		if got := purse.Less(c.a, c.b); got != c.want {
			t.Error(c, got)
		}
	}
}

// P8.3
func TestEncode(t *testing.T) {
	if b := purse.Encode(items{1, 300, 0, 5}); !bytes.Equal(b, []byte{1, 0xac, 2, 0, 5}) {
		t.Errorf("% x", b)
	}
	if b := purse.Encode(items{-1, math.MinInt, 2, 0}); !bytes.Equal(b, []byte{0, 0, 2, 0}) {
		t.Errorf("% x", b)
	}
}

func TestDecode(t *testing.T) {
	nums := func(v ...int) []byte {
		var w octet.Writer
		w.Nums(v...)
		return w.Out()
	}
	for name, b := range map[string][]byte{
		"nothing":       nil,
		"three":         nums(1, 2, 3),
		"five":          nums(1, 2, 3, 4, 5),
		"too much":      nums(1, 2, most+1, 4),
		"a long nought": {1, 2, 3, 0x80, 0},
		"it ends":       {1, 2, 3, 0x80},
	} {
		if i, err := purse.Decode(b); err != api.ErrForm || i != (items{}) {
			t.Error(name, i, err)
		}
	}
	if i, err := purse.Decode(nums(1, 2, most, 0)); err != api.OK || i != (items{1, 2, most, 0}) {
		t.Error(i, err)
	}
}

// P8.4
func TestSubOfAdd(t *testing.T) {
	draw := rand.New(rand.NewSource(4))
	some := func() (i items) {
		for k := range i {
			i[k] = draw.Intn(1 << 59 >> draw.Intn(59))
		}
		return i
	}
	for range 300 {
		a, b := some(), some()
		sum, ok := purse.Add(a, b)
		back, ok2 := purse.Sub(sum, b)
		if !ok || !ok2 || back != a {
			t.Fatal(a, b, sum, back)
		}
		if i, err := purse.Decode(purse.Encode(sum)); err != api.OK || i != sum {
			t.Fatal(i, err)
		}
		l := append(make([]items, 0, 2), a)
		if purse.Add(l...); l[0] != a || l[:2][1] != (items{}) {
			t.Fatal("changed")
		}
	}
}
