package vault_test

import (
	"bytes"
	"math"
	"math/rand"
	"reflect"
	"slices"
	"strings"
	"testing"

	"satrapy/api"
	"satrapy/octet"
	"satrapy/vault"
)

const most = api.MaxHold

type items = api.Items

func want(t *testing.T, what string, got, want api.Errno) {
	t.Helper()
	if got != want {
		t.Errorf("%s: %v, not %v", what, got, want)
	}
}

func has(t *testing.T, v *vault.Vault, who string, want items) {
	t.Helper()
	if got := v.Has(who); got != want {
		t.Errorf("%s has %v, not %v", who, got, want)
	}
}

func buys(who string, item, count, price int) api.Order {
	return api.Order{Who: who, Buy: true, Item: item, Count: count, Price: price}
}

func sells(who string, item, count, price int) api.Order {
	return api.Order{Who: who, Item: item, Count: count, Price: price}
}

func with(id int, o api.Order) api.Order {
	o.ID = id
	return o
}

// ordered lays an order of which the ID is to be that.
func ordered(t *testing.T, v *vault.Vault, id int, o api.Order) {
	t.Helper()
	if got, err := v.Order(o); got != id || err != api.OK {
		t.Errorf("Order(%v): %d, %v, not %d", o, got, err, id)
	}
}

func stands(t *testing.T, v *vault.Vault, next int, want ...api.Order) {
	t.Helper()
	if _, l, n := v.List(); !slices.Equal(l, want) || n != next {
		t.Errorf("%v, next %d, not %v, next %d", l, n, want, next)
	}
}

var long = strings.Repeat("w", 16)

// P11.1
func TestPutAndTake(t *testing.T) {
	v := vault.New()
	has(t, v, "a", items{})
	for _, who := range []string{"", long + "w"} {
		want(t, "Put to nobody", v.Put(who, items{1}), api.ErrArg)
		want(t, "Take from nobody", v.Take(who, items{}), api.ErrArg)
	}
	for _, i := range []items{{-1}, {0, 0, 0, most + 1}, {0, math.MinInt}, {0, math.MaxInt}} {
		want(t, "Put of none", v.Put("a", i), api.ErrArg)
		want(t, "Take of none", v.Take("a", i), api.ErrArg)
	}
	want(t, "Put", v.Put("a", items{5, 0, most, 1}), api.OK)
	want(t, "Put", v.Put("a", items{2, 3, 0, 0}), api.OK)
	want(t, "Put to another", v.Put(long, items{1}), api.OK)
	has(t, v, "a", items{7, 3, most, 1})
	want(t, "Put of too much", v.Put("a", items{1, 0, 1, 0}), api.ErrFull)
	want(t, "Take of too much", v.Take("a", items{1, 4, 0, 0}), api.ErrFunds)
	want(t, "Take from somebody without a purse", v.Take("b", items{1}), api.ErrFunds)
	has(t, v, "a", items{7, 3, most, 1})
	want(t, "Take", v.Take("a", items{7, 1, most, 0}), api.OK)
	has(t, v, "a", items{0, 2, 0, 1})
	has(t, v, long, items{1})
	want(t, "Take of nothing", v.Take("b", items{}), api.OK)
	want(t, "Put of nothing", v.Put("b", items{}), api.OK)
	if l, _, _ := v.List(); len(l) != 2 {
		t.Error("a purse that has nothing is none:", l)
	}
	v.Take("a", items{0, 2, 0, 1})
	if l, _, _ := v.List(); !slices.Equal(l, []api.Holding{{Who: long, Has: items{1}}}) {
		t.Error(l)
	}
}

// P11.2
func TestOrderErrs(t *testing.T) {
	v := vault.New()
	v.Put("a", items{100, 100, 100, 100})
	for name, o := range map[string]api.Order{
		"nobody":        sells("", 1, 1, 1),
		"a long who":    sells(long+"w", 1, 1, 1),
		"item 0":        sells("a", 0, 1, 1),
		"item 4":        buys("a", 4, 1, 1),
		"item below 0":  buys("a", -1, 1, 1),
		"none":          buys("a", 1, 0, 1),
		"below 0":       buys("a", 1, math.MinInt, 1),
		"too many":      buys("a", 1, api.MaxCount+1, 1),
		"no price":      buys("a", 1, 1, 0),
		"a great price": buys("a", 1, 1, api.MaxPrice+1),
	} {
		if id, err := v.Order(o); id != 0 || err != api.ErrArg {
			t.Error(name, id, err)
		}
	}
	for name, o := range map[string]api.Order{
		"too dear":     buys("a", 1, 51, 2),
		"too many":     sells("a", 3, 101, 1),
		"no purse":     sells("b", 3, 1, 1),
		"no purse too": buys("b", 3, 1, 1),
	} {
		if id, err := v.Order(o); id != 0 || err != api.ErrFunds {
			t.Error(name, id, err)
		}
	}
	has(t, v, "a", items{100, 100, 100, 100})
	stands(t, v, 1)
	for i := range api.MaxOrders {
		ordered(t, v, i+1, sells("a", 1, 1, 9))
	}
	for name, c := range map[string]struct {
		o   api.Order
		err api.Errno
	}{
		"full":               {buys("a", 1, 1, 9), api.ErrFull},
		"full, no funds":     {buys("b", 1, 1, 9), api.ErrFull},
		"full, but it's not": {buys("a", 0, 1, 9), api.ErrArg},
	} {
		if id, err := v.Order(c.o); id != 0 || err != c.err {
			t.Error(name, id, err)
		}
	}
	want(t, "Cancel", v.Cancel("a", 4), api.OK)
	ordered(t, v, 33, buys("a", 2, 1, 1))
}

func TestOrderHolds(t *testing.T) {
	v := vault.New()
	v.Put("a", items{0, 5})
	ordered(t, v, 1, with(math.MinInt, sells("a", 1, 3, 2)))
	has(t, v, "a", items{0, 2})
	v.Put("b", items{21})
	ordered(t, v, 2, with(99, buys("b", 2, 10, 2)))
	has(t, v, "b", items{1})
	stands(t, v, 3, with(1, sells("a", 1, 3, 2)), with(2, buys("b", 2, 10, 2)))
	if total, ok := v.Total(); !ok || total != (items{21, 5}) {
		t.Error(total, ok)
	}
}

func TestOrderTrades(t *testing.T) {
	v := vault.New()
	v.Put("a", items{0, 5})
	v.Put("c", items{0, 5})
	v.Put("b", items{100})
	ordered(t, v, 1, sells("a", 1, 3, 4))
	ordered(t, v, 2, sells("c", 1, 5, 3))
	ordered(t, v, 3, buys("b", 1, 7, 5)) // 5 of c at 3, 2 of a at 4
	has(t, v, "a", items{8, 2})
	has(t, v, "c", items{15})
	has(t, v, "b", items{100 - 15 - 8, 7})
	stands(t, v, 4, with(1, sells("a", 1, 1, 4)))
	ordered(t, v, 4, buys("b", 1, 3, 4)) // 1 of a at 4, 2 are left
	has(t, v, "b", items{100 - 15 - 8 - 4 - 8, 8})
	stands(t, v, 5, with(4, buys("b", 1, 2, 4)))
	ordered(t, v, 5, sells("a", 1, 2, 1)) // at the buyer's price
	has(t, v, "a", items{8 + 4 + 8})
	has(t, v, "b", items{65, 10})
	stands(t, v, 6)
	v.Put("x", items{10, 3})
	ordered(t, v, 6, sells("x", 1, 3, 2))
	ordered(t, v, 7, buys("x", 1, 3, 3)) // with oneself
	has(t, v, "x", items{10, 3})
}

func TestWhatAPurseCantHoldIsLost(t *testing.T) {
	v := vault.New()
	v.Put("s", items{most - 1, 4})
	v.Put("b", items{50, most - 1})
	ordered(t, v, 1, sells("s", 1, 4, 2))
	ordered(t, v, 2, buys("b", 1, 4, 3))
	has(t, v, "s", items{most})
	has(t, v, "b", items{50 - 8, most})
}

func TestCancel(t *testing.T) {
	v := vault.New()
	v.Put("a", items{20, 5})
	v.Put("b", items{20, 5})
	ordered(t, v, 1, sells("a", 1, 5, 4))
	ordered(t, v, 2, buys("a", 2, 2, 3))
	ordered(t, v, 3, buys("b", 1, 2, 4))
	for name, err := range map[string]api.Errno{
		"another one's": v.Cancel("b", 1), "of nobody": v.Cancel("", 1), "that traded": v.Cancel("b", 3), "none": v.Cancel("a", 9), "0": v.Cancel("a", 0), "below 0": v.Cancel("a", math.MinInt),
	} {
		want(t, name, err, api.ErrNone)
	}
	has(t, v, "a", items{22, 0})
	want(t, "a seller's, as it is left", v.Cancel("a", 1), api.OK)
	has(t, v, "a", items{22, 3})
	want(t, "a buyer's", v.Cancel("a", 2), api.OK)
	has(t, v, "a", items{28, 3})
	want(t, "twice", v.Cancel("a", 2), api.ErrNone)
	stands(t, v, 4)
}

// P11.3
func TestListAndTotal(t *testing.T) {
	v := vault.New()
	if l, o, next := v.List(); len(l) != 0 || len(o) != 0 || next != 1 {
		t.Error(l, o, next)
	}
	if total, ok := v.Total(); !ok || total != (items{}) {
		t.Error(total, ok)
	}
	for _, who := range []string{"b", "a", "\xff", "B", "ab"} {
		v.Put(who, items{1, 0, 2})
	}
	ordered(t, v, 1, sells("b", 2, 2, 9))
	ordered(t, v, 2, buys("a", 3, 1, 1))
	l, o, next := v.List()
	holding := []api.Holding{{Who: "B", Has: items{1, 0, 2}}, {Who: "a", Has: items{0, 0, 2}}, {Who: "ab", Has: items{1, 0, 2}}, {Who: "b", Has: items{1}}, {Who: "\xff", Has: items{1, 0, 2}}}
	if !slices.Equal(l, holding) || !slices.Equal(o, []api.Order{with(1, sells("b", 2, 2, 9)), with(2, buys("a", 3, 1, 1))}) || next != 3 {
		t.Error(l, o, next)
	}
	if total, ok := v.Total(); !ok || total != (items{5, 0, 10}) {
		t.Error(total, ok)
	}
	v.Put("x", items{0, 0, 0, most})
	v.Put("y", items{0, 0, 0, 1})
	if total, ok := v.Total(); ok || total != (items{}) {
		t.Error("too much in all", total, ok)
	}
}

// vaultBytes is the bytes of a vault by hand.
func vaultBytes(purses []api.Holding, orders []api.Order, next int) []byte {
	var w octet.Writer
	w.Nums(len(purses))
	for _, p := range purses {
		w.Bytes([]byte(p.Who))
		w.Nums(p.Has[:]...)
	}
	w.Nums(len(orders))
	for _, o := range orders {
		w.Nums(o.ID)
		w.Bytes([]byte(o.Who))
		buy := 0
		if o.Buy {
			buy = 1
		}
		w.Nums(buy, o.Item, o.Count, o.Price)
	}
	w.Nums(next)
	return w.Out()
}

func TestEncode(t *testing.T) {
	v := vault.New()
	if b := v.Encode(); !bytes.Equal(b, []byte{0, 0, 1}) {
		t.Errorf("% x", b)
	}
	v.Put("b", items{300, 2, 3, 4})
	v.Put("a", items{0, 0, 0, 1})
	ordered(t, v, 1, sells("b", 1, 2, 9))
	ordered(t, v, 2, buys("b", 2, 1, 7))
	hand := vaultBytes([]api.Holding{{Who: "a", Has: items{0, 0, 0, 1}}, {Who: "b", Has: items{293, 0, 3, 4}}}, []api.Order{with(1, sells("b", 1, 2, 9)), with(2, buys("b", 2, 1, 7))}, 3)
	if b := v.Encode(); !bytes.Equal(b, hand) {
		t.Errorf("% x, not % x", b, hand)
	}
}

func TestDecode(t *testing.T) {
	one := items{1}
	good := vaultBytes([]api.Holding{{Who: "a", Has: one}}, []api.Order{with(2, sells("b", 1, 2, 9))}, 3)
	huge := append([]byte{0}, 0xff, 0xff, 0xff, 0xff, 0x7f)
	for name, b := range map[string][]byte{
		"nothing":           nil,
		"less":              good[:len(good)-1],
		"more":              append(bytes.Clone(good), 0),
		"very many orders":  huge,
		"nobody":            vaultBytes([]api.Holding{{Has: one}}, nil, 1),
		"a long who":        vaultBytes([]api.Holding{{Who: long + "w", Has: one}}, nil, 1),
		"who falls":         vaultBytes([]api.Holding{{Who: "b", Has: one}, {Who: "a", Has: one}}, nil, 1),
		"who twice":         vaultBytes([]api.Holding{{Who: "a", Has: one}, {Who: "a", Has: one}}, nil, 1),
		"an empty purse":    vaultBytes([]api.Holding{{Who: "a"}}, nil, 1),
		"a great purse":     vaultBytes([]api.Holding{{Who: "a", Has: items{most + 1}}}, nil, 1),
		"next is 0":         vaultBytes(nil, nil, 0),
		"next is too great": vaultBytes(nil, nil, 1<<40+2),
		"next is an ID":     vaultBytes(nil, []api.Order{with(2, sells("b", 1, 2, 9))}, 2),
		"next is below":     vaultBytes(nil, []api.Order{with(2, sells("b", 1, 2, 9))}, 1),
		"IDs fall":          vaultBytes(nil, []api.Order{with(2, sells("b", 1, 2, 9)), with(1, sells("b", 1, 2, 9))}, 3),
		"they meet":         vaultBytes(nil, []api.Order{with(1, sells("b", 1, 2, 9)), with(2, buys("b", 1, 2, 9))}, 3),
		"an order of none":  vaultBytes(nil, []api.Order{with(1, sells("b", 1, 0, 9))}, 3),
		"an order of ID 0":  vaultBytes(nil, []api.Order{sells("b", 1, 1, 9)}, 3),
		"33 orders":         vaultBytes(nil, many(33), 99),
		"Buy of 2":          bytes.Replace(vaultBytes(nil, []api.Order{with(1, buys("b", 1, 5, 9))}, 3), []byte{'b', 1, 1, 5}, []byte{'b', 2, 1, 5}, 1),
		"a long number":     append([]byte{0x80, 0}, good[1:]...),
	} {
		if v, err := vault.Decode(b); err != api.ErrForm || v != nil {
			t.Error(name, err)
		}
	}
	for name, b := range map[string][]byte{
		"good":          good,
		"empty":         vaultBytes(nil, nil, 1),
		"the last next": vaultBytes(nil, nil, 1<<40+1),
		"32 orders":     vaultBytes([]api.Holding{{Who: long, Has: items{most, most, most, most}}}, many(32), 33),
	} {
		v, err := vault.Decode(b)
		if err != api.OK || !bytes.Equal(v.Encode(), b) {
			t.Error(name, err)
		}
	}
	v, _ := vault.Decode(vaultBytes([]api.Holding{{Who: "a", Has: items{9, 9}}}, []api.Order{with(1<<39, sells("b", 1, 2, 3))}, 1<<40))
	ordered(t, v, 1<<40, buys("a", 1, 1, 3))
	has(t, v, "a", items{6, 10})
	if id, err := v.Order(buys("a", 1, 1, 3)); id != 0 || err != api.ErrFull {
		t.Error("no ID is left", id, err)
	}
	if _, _, next := v.List(); next != 1<<40+1 {
		t.Error(next)
	}
}

func many(n int) (l []api.Order) {
	for i := range n {
		l = append(l, with(i+1, sells("s", 1, 1, 9)))
	}
	return l
}

// P11.4
func TestTotalsStay(t *testing.T) {
	draw := rand.New(rand.NewSource(9))
	who := []string{"a", "b", "c", "d"}
	for range 60 {
		v := vault.New()
		var sum items
		for range 150 {
			w := who[draw.Intn(len(who))]
			i := items{draw.Intn(50), draw.Intn(9), draw.Intn(9), draw.Intn(9)}
			sign := 0
			switch draw.Intn(5) {
			case 0:
				if v.Put(w, i) == api.OK {
					sign = 1
				}
			case 1:
				if v.Take(w, i) == api.OK {
					sign = -1
				}
			case 2:
				v.Cancel(w, draw.Intn(100))
			default:
				v.Order(api.Order{Who: w, Buy: draw.Intn(2) == 0, Item: 1 + draw.Intn(3), Count: 1 + draw.Intn(6), Price: 1 + draw.Intn(6)})
			}
			for k := range sum {
				sum[k] += sign * i[k]
			}
			if total, ok := v.Total(); !ok || total != sum {
				t.Fatal(total, sum)
			}
			back, err := vault.Decode(v.Encode())
			if err != api.OK || !bytes.Equal(back.Encode(), v.Encode()) {
				t.Fatal("Decode of Encode", err)
			}
		}
	}
}

func TestNewMemory(t *testing.T) {
	v := vault.New()
	v.Put("a", items{5, 5})
	v.Order(sells("a", 1, 1, 1))
	l, o, _ := v.List()
	l[0].Who, o[0].Who = "z", "z"
	b := v.Encode()
	back, _ := vault.Decode(b)
	was := bytes.Clone(b)
	clear(b)
	if !bytes.Equal(back.Encode(), was) || !bytes.Equal(v.Encode(), was) {
		t.Error("memory is shared")
	}
	v.Put("b", items{1})
	if !reflect.DeepEqual(l, []api.Holding{{Who: "z", Has: items{5, 4}}}) {
		t.Error("an answer changed", l)
	}
}

func TestNilVault(t *testing.T) {
	var v *vault.Vault
	want(t, "Put", v.Put("a", items{1}), api.ErrArg)
	want(t, "Take", v.Take("a", items{1}), api.ErrArg)
	want(t, "Cancel", v.Cancel("a", 1), api.ErrArg)
	if id, err := v.Order(sells("a", 1, 1, 1)); id != 0 || err != api.ErrArg {
		t.Error(id, err)
	}
	has(t, v, "a", items{})
	if l, o, next := v.List(); len(l) != 0 || len(o) != 0 || next != 0 {
		t.Error(l, o, next)
	}
	if total, ok := v.Total(); ok || total != (items{}) || len(v.Encode()) != 0 {
		t.Error(total, ok)
	}
}
