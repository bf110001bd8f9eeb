package judge_test

import (
	"bytes"
	"slices"
	"testing"

	"satrapy/api"
	"satrapy/econ"
	"satrapy/gate"
	"satrapy/judge"
	"satrapy/vault"
	"satrapy/zone"
)

const most = api.MaxHold

type items = api.Items

var (
	ax = api.Place{Key: "a", Who: "x"}
	by = api.Place{Key: "b", Who: "y"}
	ok = api.Reply{}
)

func mint(client, seq int, p api.Place, item, n int) api.Op {
	return api.Op{Kind: api.OpMint, Client: client, Seq: seq, At: p, Item: item, Count: n}
}

func send(client, seq int, p, to api.Place, item, n int) api.Op {
	return api.Op{Kind: api.OpSend, Client: client, Seq: seq, At: p, To: to, Item: item, Count: n}
}

func arrive(o api.Op) api.Op {
	return api.Op{Kind: api.OpArrive, Client: o.Client, Seq: o.Seq, At: o.To, Item: o.Item, Count: o.Count}
}

func look(client, seq int, p api.Place) api.Op {
	return api.Op{Kind: api.OpLook, Client: client, Seq: seq, At: p}
}

func events(l ...api.Op) (all []zone.Event) {
	for i, o := range l {
		all = append(all, zone.Event{Zone: 1 + i%3, Index: i, Op: o})
	}
	return all
}

func of(l ...api.Op) *econ.Econ {
	e := econ.New()
	for _, o := range l {
		e.Apply(o)
	}
	return e
}

// P27.1
func TestOrder(t *testing.T) {
	l := []api.Op{mint(1, 1, ax, 0, 5), send(1, 2, ax, by, 0, 9), send(1, 3, ax, by, 0, 2), look(2, 1, ax), mint(1, 1, ax, 0, 5), {}, arrive(send(1, 3, ax, by, 0, 2)), look(2, 2, by)}
	replies, e := judge.Order(events(l...))
	want := []api.Reply{ok, {Err: api.ErrFunds}, ok, {Has: items{3}}, {Err: api.ErrOld}, {Err: api.ErrArg}, ok, {Has: items{2}}}
	if !slices.Equal(replies, want) || !bytes.Equal(e.Encode(), of(l...).Encode()) {
		t.Error(replies, e.Keys())
	}
	replies, e = judge.Order(nil)
	if len(replies) != 0 || !bytes.Equal(e.Encode(), of().Encode()) {
		t.Error("of nothing", replies)
	}
}

// P27.2
func TestWrong(t *testing.T) {
	l := []api.Op{mint(1, 1, ax, 0, 5), look(1, 2, ax), mint(2, 1, ax, 0, 1), look(2, 2, ax), look(1, 2, ax)}
	all := events(l...)
	right := []gate.Answer{{Op: l[0], Reply: ok}, {Op: l[1], Reply: api.Reply{Has: items{5}}}}
	more := []gate.Answer{{Op: l[2], Reply: ok}, {Op: l[3], Reply: api.Reply{Has: items{6}}}}
	with := func(l []gate.Answer, at int, f func(a *gate.Answer)) []gate.Answer {
		l = slices.Clone(l)
		f(&l[at])
		return l
	}
	for name, c := range map[string]struct {
		answers [][]gate.Answer
		want    int
	}{
		"none":                      {nil, -1},
		"empty lists":               {[][]gate.Answer{nil, {}}, -1},
		"right":                     {[][]gate.Answer{right, more}, -1},
		"in another order":          {[][]gate.Answer{more, nil, right}, -1},
		"once more":                 {[][]gate.Answer{right, right}, -1},
		"another Reply":             {[][]gate.Answer{right, with(more, 1, func(a *gate.Answer) { a.Reply.Has[0] = 5 })}, 3},
		"another Err":               {[][]gate.Answer{with(right, 0, func(a *gate.Answer) { a.Reply.Err = 3 }), more}, 0},
		"no event":                  {[][]gate.Answer{right, with(more, 0, func(a *gate.Answer) { a.Op.Seq = 9 })}, 2},
		"another Count":             {[][]gate.Answer{with(right, 0, func(a *gate.Answer) { a.Op.Count = 6 })}, 0},
		"another Who":               {[][]gate.Answer{with(right, 1, func(a *gate.Answer) { a.Op.At.Who = "z" })}, 1},
		"the first one":             {[][]gate.Answer{with(right, 1, func(a *gate.Answer) { a.Reply.ID = 1 }), with(more, 0, func(a *gate.Answer) { a.Reply.ID = 1 })}, 1},
		"by the first such event":   {[][]gate.Answer{with(right, 1, func(a *gate.Answer) { a.Reply.Has[0] = 6 })}, 1},
		"the empty ones in place":   {[][]gate.Answer{nil, right, nil, with(more, 0, func(a *gate.Answer) { a.Reply.ID = 1 })}, 2},
		"nothing that was answered": {[][]gate.Answer{{{}}}, 0},
	} {
		if got := judge.Wrong(all, c.answers...); got != c.want {
			t.Errorf("%s: %d, not %d", name, got, c.want)
		}
	}
	if got := judge.Wrong(nil, right); got != 0 {
		t.Error("no events", got)
	}
}

func TestTwice(t *testing.T) {
	sent := send(1, 2, ax, by, 0, 2)
	done := api.Op{Kind: api.OpDone, Client: 1, Seq: 2, At: ax}
	good := []api.Op{mint(1, 1, ax, 0, 5), sent, arrive(sent), done, look(2, 1, by)}
	for name, c := range map[string]struct {
		more []api.Op
		want int
	}{
		"none":                 {nil, -1},
		"the last one again":   {[]api.Op{look(2, 1, by)}, 5},
		"an elder one":         {[]api.Op{look(2, 2, by), mint(1, 1, ax, 0, 5)}, 6},
		"an arrival":           {[]api.Op{arrive(sent)}, 5},
		"a done":               {[]api.Op{done}, 5},
		"one that may not be":  {[]api.Op{{}, look(2, 1, by)}, 5},
		"another of that Seq":  {[]api.Op{mint(2, 1, by, 0, 1)}, 5},
		"a done of nothing":    {[]api.Op{{Kind: api.OpDone, Client: 1, Seq: 9, At: ax}}, 5},
		"an arrival of no one": {[]api.Op{arrive(send(3, 3, ax, by, 0, 1))}, -1},
	} {
		if got := judge.Twice(events(append(slices.Clone(good), c.more...)...)); got != c.want {
			t.Errorf("%s: %d, not %d", name, got, c.want)
		}
	}
	if judge.Twice(nil) != -1 {
		t.Error("of nothing")
	}
}

// P27.3
func TestTotal(t *testing.T) {
	sent, other := send(1, 2, ax, by, 0, 2), send(1, 4, ax, by, 3, 1)
	a := of(mint(1, 1, ax, 0, 5), sent, mint(1, 3, ax, 3, 1), other)
	b := of(mint(2, 1, by, 1, 7))
	all := of(arrive(sent))
	for name, c := range map[string]struct {
		e    *econ.Econ
		l    []*econ.Econ
		want items
		ok   bool
	}{
		"nothing":             {all, nil, items{}, true},
		"nil ones":            {all, []*econ.Econ{nil, nil}, items{}, true},
		"what is under way":   {of(), []*econ.Econ{a}, items{5, 0, 0, 1}, true},
		"what has arrived":    {all, []*econ.Econ{a}, items{3, 0, 0, 1}, true},
		"together":            {all, []*econ.Econ{a, nil, b}, items{3, 7, 0, 1}, true},
		"held against nobody": {nil, []*econ.Econ{a}, items{5, 0, 0, 1}, true},
		"too much":            {nil, []*econ.Econ{rich(t, most), rich(t, 1)}, items{}, false},
		"just not too much":   {nil, []*econ.Econ{rich(t, most-1), rich(t, 1)}, items{most}, true},
		"too much in one":     {nil, []*econ.Econ{rich(t, most, 1)}, items{}, false},
		"too much under way":  {nil, []*econ.Econ{rich(t, most), of(mint(1, 1, ax, 0, 1), send(1, 2, ax, by, 0, 1))}, items{}, false},
	} {
		if got, ok := judge.Total(c.e, c.l...); got != c.want || ok != c.ok {
			t.Errorf("%s: %v, %v, not %v, %v", name, got, ok, c.want, c.ok)
		}
	}
}

// rich is an economy of some purses at one key.
func rich(t *testing.T, n ...int) *econ.Econ {
	t.Helper()
	v := vault.New()
	for i, n := range n {
		v.Put(string(rune('a'+i)), items{n})
	}
	row := append([]byte{1, 1, 'k', byte(len(v.Encode()))}, v.Encode()...)
	e, err := econ.Decode(append(row, 0, 0, 0))
	if err != api.OK {
		t.Fatal(err)
	}
	return e
}

func TestParts(t *testing.T) {
	zone := func(from, to string) api.Zone { return api.Zone{Span: api.Span{From: from, To: to}} }
	two := api.Map{Zones: []api.Zone{zone("", "m"), zone("m", "")}}
	e := of(mint(1, 1, ax, 0, 1), mint(1, 2, api.Place{Key: "m", Who: "x"}, 0, 1))
	if !judge.Parts(two, e) || !judge.Parts(two) || !judge.Parts(two, nil, e, econ.New()) || !judge.Parts(api.Map{}, nil, econ.New()) {
		t.Error("each key has one")
	}
	for name, m := range map[string]api.Map{
		"no zone":   {},
		"a hole":    {Zones: []api.Zone{zone("", "m"), zone("n", "")}},
		"two have":  {Zones: []api.Zone{zone("", "m"), zone("a", "")}},
		"none at a": {Zones: []api.Zone{zone("b", "")}},
		"no Span":   {Zones: []api.Zone{zone("", "m"), zone("n", "m")}},
	} {
		if judge.Parts(m, econ.New(), e) {
			t.Error(name)
		}
	}
}

// P27.4
func TestArgumentsStay(t *testing.T) {
	l := events(mint(1, 1, ax, 0, 5), send(1, 2, ax, by, 0, 2), look(2, 1, ax))
	kept := slices.Clone(l)
	answers := []gate.Answer{{Op: l[0].Op}}
	e := of(mint(1, 1, ax, 0, 5), send(1, 2, ax, by, 0, 2))
	was := e.Encode()
	judge.Order(l)
	judge.Wrong(l, answers)
	judge.Twice(l)
	judge.Total(e, e)
	judge.Parts(api.Map{}, e)
	if !slices.Equal(l, kept) || !bytes.Equal(e.Encode(), was) || answers[0] != (gate.Answer{Op: l[0].Op}) {
		t.Error("an argument changed")
	}
}
