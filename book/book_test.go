package book_test

import (
	"fmt"
	"math"
	"math/rand"
	"reflect"
	"slices"
	"strings"
	"testing"

	"satrapy/api"
	"satrapy/book"
)

func order(id int, who string, buy bool, item, count, price int) api.Order {
	return api.Order{ID: id, Who: who, Buy: buy, Item: item, Count: count, Price: price}
}

func buy(id, count, price int) api.Order  { return order(id, "b", true, 1, count, price) }
func sell(id, count, price int) api.Order { return order(id, "s", false, 1, count, price) }

// of is a book in which these were placed.
func of(t *testing.T, l ...api.Order) *book.Book {
	t.Helper()
	b := book.New()
	for _, o := range l {
		if _, _, err := b.Place(o); err != api.OK {
			t.Fatal(o, err)
		}
	}
	return b
}

func stands(t *testing.T, what string, b *book.Book, want ...api.Order) {
	t.Helper()
	if l := b.List(); !slices.Equal(l, want) || b.Len() != len(want) {
		t.Errorf("%s: %v (%d), not %v", what, l, b.Len(), want)
	}
}

// wrong is orders that may not be.
func wrong() map[string]api.Order {
	good := order(5, "a", true, 1, 1, 1)
	m := map[string]api.Order{}
	with := func(name string, f func(o *api.Order)) {
		o := good
		f(&o)
		m[name] = o
	}
	for _, n := range []int{0, -1, math.MinInt, math.MaxInt} {
		with(fmt.Sprint("ID ", n), func(o *api.Order) { o.ID = n })
		with(fmt.Sprint("Item ", n), func(o *api.Order) { o.Item = n })
		with(fmt.Sprint("Count ", n), func(o *api.Order) { o.Count = n })
		with(fmt.Sprint("Price ", n), func(o *api.Order) { o.Price = n })
	}
	with("a great ID", func(o *api.Order) { o.ID = 1<<40 + 1 })
	with("nobody", func(o *api.Order) { o.Who = "" })
	with("a long Who", func(o *api.Order) { o.Who = strings.Repeat("w", 17) })
	with("Item 4", func(o *api.Order) { o.Item = 4 })
	with("a great Count", func(o *api.Order) { o.Count = api.MaxCount + 1 })
	with("a great Price", func(o *api.Order) { o.Price = api.MaxPrice + 1 })
	return m
}

// P9.1
func TestPlaceErrArg(t *testing.T) {
	for name, o := range wrong() {
		b := book.New()
		if trades, left, err := b.Place(o); err != api.ErrArg || len(trades) != 0 || left != 0 || b.Len() != 0 {
			t.Error(name, trades, left, err)
		}
		full := of(t, many(32)...)
		if _, _, err := full.Place(o); err != api.ErrArg {
			t.Error(name, "in a full book:", err)
		}
	}
	b := of(t, buy(7, 1, 1))
	for _, id := range []int{7, 6, 1} {
		if _, _, err := b.Place(buy(id, 1, 1)); err != api.ErrArg {
			t.Error(id, err)
		}
	}
	b.Cancel(7)
	if _, _, err := b.Place(buy(7, 1, 1)); err != api.ErrArg {
		t.Error("an ID that was placed and went", err)
	}
	if _, left, err := b.Place(order(1<<40, strings.Repeat("w", 16), false, 3, api.MaxCount, api.MaxPrice)); err != api.OK || left != api.MaxCount {
		t.Error("all at their bounds", left, err)
	}
}

func many(n int) (l []api.Order) {
	for i := range n {
		l = append(l, sell(100+i, 1, 9))
	}
	return l
}

func TestPlaceErrFull(t *testing.T) {
	b := of(t, many(31)...)
	if _, _, err := b.Place(buy(200, 1, 1)); err != api.OK {
		t.Error(err)
	}
	if trades, left, err := b.Place(buy(201, 1, 9)); err != api.ErrFull || len(trades) != 0 || left != 0 {
		t.Error("one that would trade", err)
	}
	if _, _, err := b.Place(order(202, "a", true, 2, 1, 1)); err != api.ErrFull {
		t.Error("one of another item", err)
	}
	b.Cancel(105)
	if _, _, err := b.Place(buy(201, 1, 1)); err != api.OK {
		t.Error("an ID that erred was not placed", err)
	}
}

func TestPlaceTrades(t *testing.T) {
	type trades = []book.Trade
	for name, c := range map[string]struct {
		there []api.Order
		o     api.Order
		want  trades
		left  int
		after []api.Order
	}{
		"alone":                {nil, buy(9, 5, 3), nil, 5, []api.Order{buy(9, 5, 3)}},
		"a seller stood there": {[]api.Order{sell(1, 3, 5)}, buy(9, 2, 7), trades{{"b", "s", 9, 1, 1, 2, 5, 7}}, 0, []api.Order{sell(1, 1, 5)}},
		"a buyer stood there":  {[]api.Order{buy(1, 3, 7)}, sell(9, 2, 5), trades{{"b", "s", 1, 9, 1, 2, 7, 7}}, 0, []api.Order{buy(1, 1, 7)}},
		"just alike":           {[]api.Order{buy(1, 2, 5)}, sell(9, 2, 5), trades{{"b", "s", 1, 9, 1, 2, 5, 5}}, 0, nil},
		"too dear":             {[]api.Order{buy(1, 2, 5)}, sell(9, 2, 6), nil, 2, []api.Order{buy(1, 2, 5), sell(9, 2, 6)}},
		"too little offered":   {[]api.Order{sell(1, 2, 5)}, buy(9, 2, 4), nil, 2, []api.Order{sell(1, 2, 5), buy(9, 2, 4)}},
		"another item":         {[]api.Order{order(1, "s", false, 2, 2, 5)}, buy(9, 2, 9), nil, 2, []api.Order{order(1, "s", false, 2, 2, 5), buy(9, 2, 9)}},
		"both buy":             {[]api.Order{buy(1, 2, 5)}, buy(9, 2, 9), nil, 2, []api.Order{buy(1, 2, 5), buy(9, 2, 9)}},
		"the lowest seller": {[]api.Order{sell(1, 1, 6), sell(2, 2, 4), sell(3, 1, 5), sell(4, 9, 8)}, buy(9, 5, 7),
			trades{{"b", "s", 9, 2, 1, 2, 4, 7}, {"b", "s", 9, 3, 1, 1, 5, 7}, {"b", "s", 9, 1, 1, 1, 6, 7}}, 1, []api.Order{sell(4, 9, 8), buy(9, 1, 7)}},
		"the highest buyer": {[]api.Order{buy(1, 1, 4), buy(2, 2, 6), buy(3, 1, 5), buy(4, 9, 2)}, sell(9, 5, 3),
			trades{{"b", "s", 2, 9, 1, 2, 6, 6}, {"b", "s", 3, 9, 1, 1, 5, 5}, {"b", "s", 1, 9, 1, 1, 4, 4}}, 1, []api.Order{buy(4, 9, 2), sell(9, 1, 3)}},
		"the first of sellers alike": {[]api.Order{sell(1, 1, 5), sell(2, 1, 5), sell(3, 1, 5)}, buy(9, 2, 5),
			trades{{"b", "s", 9, 1, 1, 1, 5, 5}, {"b", "s", 9, 2, 1, 1, 5, 5}}, 0, []api.Order{sell(3, 1, 5)}},
		"the first of buyers alike": {[]api.Order{buy(1, 1, 5), buy(2, 1, 5), buy(3, 1, 5)}, sell(9, 2, 5),
			trades{{"b", "s", 1, 9, 1, 1, 5, 5}, {"b", "s", 2, 9, 1, 1, 5, 5}}, 0, []api.Order{buy(3, 1, 5)}},
		"with oneself": {[]api.Order{order(1, "x", true, 3, 4, 5)}, order(9, "x", false, 3, 4, 1), trades{{"x", "x", 1, 9, 3, 4, 5, 5}}, 0, nil},
	} {
		b := of(t, c.there...)
		got, left, err := b.Place(c.o)
		if err != api.OK || left != c.left || !slices.Equal(got, c.want) {
			t.Errorf("%s: %v, %d, %v, not %v, %d", name, got, left, err, c.want, c.left)
		}
		stands(t, name, b, c.after...)
	}
}

// P9.2
func TestCancel(t *testing.T) {
	b := of(t, sell(1, 5, 5), buy(2, 2, 9), sell(3, 1, 4), buy(4, 1, 3), order(5, "z", false, 3, 1, 1))
	stands(t, "at first", b, sell(1, 3, 5), sell(3, 1, 4), buy(4, 1, 3), order(5, "z", false, 3, 1, 1))
	for _, id := range []int{0, 2, 6, -1, math.MaxInt} {
		if o, err := b.Cancel(id); err != api.ErrNone || o != (api.Order{}) {
			t.Error(id, o, err)
		}
	}
	if o, err := b.Cancel(1); err != api.OK || o != sell(1, 3, 5) {
		t.Error(o, err)
	}
	if o, err := b.Cancel(1); err != api.ErrNone || o != (api.Order{}) {
		t.Error("twice", o, err)
	}
	stands(t, "without 1", b, sell(3, 1, 4), buy(4, 1, 3), order(5, "z", false, 3, 1, 1))
	if trades, left, _ := b.Place(buy(6, 2, 9)); left != 1 || len(trades) != 1 || trades[0].Sell != 3 {
		t.Error("what was cancelled trades", trades, left)
	}
}

func TestCancelledOrdersAreInNobodysWay(t *testing.T) {
	draw := rand.New(rand.NewSource(7))
	for range 200 {
		b := book.New()
		var l []api.Order
		for i := range 20 {
			o := sell(i+1, 1, 1+draw.Intn(6))
			b.Place(o)
			l = append(l, o)
		}
		for range draw.Intn(19) {
			at := draw.Intn(len(l))
			b.Cancel(l[at].ID)
			l = slices.Delete(l, at, at+1)
		}
		stands(t, "the rest", b, l...)
		slices.SortFunc(l, func(x, y api.Order) int { return (x.Price-y.Price)*100 + x.ID - y.ID })
		trades, _, _ := b.Place(buy(99, 20, 9))
		for i, o := range l {
			if trades[i].Sell != o.ID {
				t.Fatal(trades, l)
			}
		}
	}
}

func TestOf(t *testing.T) {
	l := []api.Order{sell(2, 1, 9), buy(5, 1, 8), sell(7, 3, 9), order(8, "x", true, 2, 1, 9)}
	b, err := book.Of(l...)
	if err != api.OK {
		t.Fatal(err)
	}
	stands(t, "Of", b, l...)
	if _, _, err := b.Place(buy(8, 1, 1)); err != api.ErrArg {
		t.Error("an ID that came by Of", err)
	}
	if trades, left, err := b.Place(buy(9, 9, 9)); err != api.OK || left != 5 || len(trades) != 2 || trades[0].Sell != 2 {
		t.Error(trades, left, err)
	}
	if b, err := book.Of(); err != api.OK || b.Len() != 0 {
		t.Error("of none", err)
	}
	if b, err := book.Of(many(32)...); err != api.OK || b.Len() != 32 {
		t.Error("of 32", err)
	}
	bad := map[string][]api.Order{
		"33":               many(33),
		"IDs fall":         {sell(2, 1, 9), sell(1, 1, 9)},
		"IDs alike":        {sell(2, 1, 9), sell(2, 1, 9)},
		"two that meet":    {sell(2, 1, 5), buy(3, 1, 5)},
		"meet, buyer 1st":  {buy(2, 1, 6), sell(3, 1, 5)},
		"meet, not nearby": {buy(2, 1, 6), buy(3, 1, 1), sell(4, 1, 6)},
	}
	for name, o := range wrong() {
		bad[name] = []api.Order{o}
	}
	for name, l := range bad {
		if b, err := book.Of(l...); err != api.ErrArg || b != nil {
			t.Error(name, err)
		}
	}
}

// P9.3
func TestNothingIsLost(t *testing.T) {
	draw := rand.New(rand.NewSource(8))
	for range 100 {
		b := book.New()
		left := map[int]int{} // of each that was offered
		for id := 1; id < 150; id++ {
			o := order(id, fmt.Sprint("w", draw.Intn(4)), draw.Intn(2) == 0, 1+draw.Intn(3), 1+draw.Intn(9), 1+draw.Intn(6))
			trades, n, err := b.Place(o)
			if err == api.ErrFull {
				victim := b.List()[draw.Intn(b.Len())]
				c, _ := b.Cancel(victim.ID)
				if c != victim || c.Count != left[c.ID] {
					t.Fatal(c, victim, left[c.ID])
				}
				delete(left, c.ID)
				continue
			}
			left[id] = o.Count
			for _, tr := range trades {
				left[tr.Buy] -= tr.Count
				left[tr.Sell] -= tr.Count
				if tr.Count < 1 || tr.Price > tr.Bid || tr.Item != o.Item || tr.Buy != id && tr.Sell != id {
					t.Fatal(tr)
				}
			}
			if left[id] != n {
				t.Fatal(left[id], n)
			}
			check(t, b, left)
		}
	}
}

// check: what stands there is what is left, and no two meet.
func check(t *testing.T, b *book.Book, left map[int]int) {
	t.Helper()
	l := b.List()
	there := map[int]int{}
	for _, o := range l {
		there[o.ID] = o.Count
		for _, p := range l {
			if o.Buy && !p.Buy && o.Item == p.Item && o.Price >= p.Price {
				t.Fatal("they meet:", o, p)
			}
		}
	}
	for id, n := range left {
		if there[id] != n {
			t.Fatal(id, "has", there[id], "left, not", n)
		}
	}
}

func TestNewMemory(t *testing.T) {
	l := append(make([]api.Order, 0, 4), sell(1, 1, 9), sell(2, 1, 8))
	b, _ := book.Of(l...)
	l[0].Price = 1
	stands(t, "Of kept nothing", b, sell(1, 1, 9), sell(2, 1, 8))
	if l[:3][2] != (api.Order{}) {
		t.Error("the spare room was written to")
	}
	got := b.List()
	got[0].Price = 1
	_ = append(got[:1], buy(3, 1, 1))
	stands(t, "List is new memory", b, sell(1, 1, 9), sell(2, 1, 8))
	got = b.List()
	b.Place(buy(9, 1, 9))
	if !reflect.DeepEqual(got, []api.Order{sell(1, 1, 9), sell(2, 1, 8)}) {
		t.Error("an answer changed", got)
	}
}

func TestNilBook(t *testing.T) {
	var b *book.Book
	if trades, left, err := b.Place(buy(1, 1, 1)); err != api.ErrArg || len(trades) != 0 || left != 0 {
		t.Error(err)
	}
	if o, err := b.Cancel(1); err != api.ErrArg || o != (api.Order{}) {
		t.Error(err)
	}
	if len(b.List()) != 0 || b.Len() != 0 {
		t.Error("a nil Book has something")
	}
}
