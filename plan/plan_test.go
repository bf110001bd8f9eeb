package plan_test

import (
	"math"
	"math/rand"
	"reflect"
	"slices"
	"testing"

	"satrapy/api"
	"satrapy/dir"
	"satrapy/load"
	"satrapy/plan"
)

type row = load.Row

func z(id int, from, to string, owner int) api.Zone {
	return api.Zone{ID: id, Span: api.Span{From: from, To: to}, Owner: owner, Epoch: 1}
}

func mapOf(zones ...api.Zone) api.Map { return api.Map{Version: 5, Next: 50, Zones: zones} }

func split(zone int, key string) api.Change {
	return api.Change{Kind: api.DirSplit, Zone: zone, Key: key}
}
func merge(zone int) api.Change    { return api.Change{Kind: api.DirMerge, Zone: zone} }
func move(zone, to int) api.Change { return api.Change{Kind: api.DirMove, Zone: zone, To: to} }

// none: no splits and no merges.
var none = plan.Limits{Hot: math.MaxInt, Cold: math.MinInt}

func plans(t *testing.T, what string, m api.Map, hosts []int, l []row, lim plan.Limits, want ...api.Change) {
	t.Helper()
	if got := plan.Make(m, hosts, l, lim); !slices.Equal(got, want) {
		t.Errorf("%s: %v, not %v", what, got, want)
	}
}

// P20.1
func TestNothing(t *testing.T) {
	good := mapOf(z(1, "", "m", 8), z(2, "m", "", 8))
	l := []row{{Zone: 1, Hits: 5, Middle: "c"}, {Zone: 2, Hits: 4, Middle: "q"}}
	all := plan.Limits{Hot: 0, Cold: 100}
	plans(t, "good", good, []int{8, 9}, l, all, split(1, "c"), split(2, "q"))
	for _, hosts := range [][]int{nil, {7}, {9, 8}, {8, 8}, {8, 14}} {
		plans(t, "no hosts", good, hosts, l, all)
	}
	bad := mapOf(z(1, "", "m", 8), z(2, "n", "", 8))
	plans(t, "no map", bad, []int{8, 9}, l, all)
	below := mapOf(z(1, "", "m", 8), z(2, "m", "", 8))
	below.Zones[1].Pend = -1
	plans(t, "a number below 0", below, []int{8, 9}, l, all)
	plans(t, "nothing", api.Map{}, []int{8, 9}, l, all)
	plans(t, "nothing to do", good, []int{8, 9}, nil, plan.Limits{})
}

func TestSplits(t *testing.T) {
	m := mapOf(z(7, "", "d", 8), z(2, "d", "m", 8), z(5, "m", "", 8))
	h := []int{8}
	lim := plan.Limits{Hot: 4}
	plans(t, "by IDs", m, h, []row{{Zone: 7, Hits: 9, Middle: "b"}, {Zone: 5, Hits: 9, Middle: "q"}, {Zone: 2, Hits: 9, Middle: "e"}}, lim, split(2, "e"), split(5, "q"), split(7, "b"))
	plans(t, "above Hot", m, h, []row{{Zone: 7, Hits: 4, Middle: "b"}, {Zone: 5, Hits: 5, Middle: "q"}}, lim, split(5, "q"))
	plans(t, "a Middle that does not cut", m, h, []row{{Zone: 7, Hits: 9, Middle: "d"}, {Zone: 2, Hits: 9, Middle: "d"}, {Zone: 5, Hits: 9, Middle: ""}}, lim)
	plans(t, "the first row", m, h, []row{{Zone: 7, Hits: 1, Middle: "b"}, {Zone: 7, Hits: 9, Middle: "b"}, {Zone: 2, Hits: 9, Middle: "e"}, {Zone: 2, Hits: 0, Middle: "f"}}, lim, split(2, "e"))
	plans(t, "no zone", m, h, []row{{Zone: 9, Hits: 9, Middle: "b"}}, lim)
	plans(t, "0 without a row is above -1, but has no Middle", m, h, []row{{Zone: 7, Hits: -9, Middle: "b"}}, plan.Limits{Hot: -1}, split(7, "b"))
	plans(t, "at most 2^40", m, h, []row{{Zone: 7, Hits: math.MaxInt, Middle: "b"}}, plan.Limits{Hot: 1 << 40})
	plans(t, "at most 2^40", m, h, []row{{Zone: 7, Hits: math.MaxInt, Middle: "b"}}, plan.Limits{Hot: 1<<40 - 1}, split(7, "b"))
	m.Zones[1].Pend, m.Zones[1].To = api.DirMove, 9
	plans(t, "not free", m, h, []row{{Zone: 7, Hits: 9, Middle: "b"}, {Zone: 5, Hits: 9, Middle: "q"}, {Zone: 2, Hits: 9, Middle: "e"}}, lim, split(5, "q"), split(7, "b"))
}

func TestMaxZones(t *testing.T) {
	var zones []api.Zone
	var l []row
	from := ""
	for i := range 13 {
		to := string(rune('b' + i))
		if i == 12 {
			to = ""
		}
		zones = append(zones, z(i+1, from, to, 8))
		l = append(l, row{Zone: i + 1, Hits: 9, Middle: from + "aa"})
		from = to
	}
	zones[4].Pend, zones[4].Key, zones[4].New = api.DirSplit, "eaa", 40
	plans(t, "13 zones, one that is split", mapOf(zones...), []int{8}, l, plan.Limits{Hot: 1}, split(1, "aa"), split(2, "baa"))
}

func TestMoves(t *testing.T) {
	a, b := z(1, "", "m", 8), z(2, "m", "", 8)
	plans(t, "as the document says", mapOf(a, b), []int{8, 9}, []row{{Zone: 1, Hits: 5, Middle: ""}, {Zone: 2, Hits: 4, Middle: ""}}, none, move(1, 9))
	plans(t, "alone", mapOf(a, b), []int{8}, []row{{Zone: 1, Hits: 5, Middle: ""}, {Zone: 2, Hits: 4, Middle: ""}}, none)
	plans(t, "no hits", mapOf(a, b), []int{8, 9}, nil, none)
	plans(t, "all of it would be no better", mapOf(a, b), []int{8, 9}, []row{{Zone: 1, Hits: 9, Middle: ""}}, none)
	plans(t, "some hits, the most", mapOf(z(1, "", "c", 8), z(2, "c", "f", 8), z(3, "f", "", 9)), []int{8, 9}, []row{{Zone: 1, Hits: 6, Middle: ""}, {Zone: 2, Hits: 3, Middle: ""}, {Zone: 3, Hits: 3, Middle: ""}}, none, move(2, 9))
	plans(t, "just as much", mapOf(z(1, "", "c", 8), z(2, "c", "f", 8), z(3, "f", "", 9)), []int{8, 9}, []row{{Zone: 1, Hits: 6, Middle: ""}, {Zone: 2, Hits: 3, Middle: ""}, {Zone: 3, Hits: 6, Middle: ""}}, none)
	four := mapOf(z(9, "", "b", 8), z(4, "b", "c", 8), z(3, "c", "d", 8), z(6, "d", "", 8))
	l := []row{{Zone: 9, Hits: 5, Middle: ""}, {Zone: 4, Hits: 5, Middle: ""}, {Zone: 3, Hits: 5, Middle: ""}, {Zone: 6, Hits: 5, Middle: ""}}
	plans(t, "of alike ones the lowest", four, []int{8, 9, 10}, l, none, move(3, 9), move(4, 10))
	plans(t, "in turn", four, []int{8, 9}, l, none, move(3, 9), move(4, 9))
	two := mapOf(z(1, "", "b", 10), z(2, "b", "c", 10), z(3, "c", "d", 9), z(4, "d", "", 9))
	plans(t, "the lowest of hosts alike", two, []int{8, 9, 10, 11}, []row{{Zone: 1, Hits: 5, Middle: ""}, {Zone: 2, Hits: 5, Middle: ""}, {Zone: 3, Hits: 5, Middle: ""}, {Zone: 4, Hits: 5, Middle: ""}}, none, move(3, 8), move(1, 11))
	pend := mapOf(z(1, "", "b", 8), z(2, "b", "c", 8), z(3, "c", "d", 8), z(4, "d", "", 8))
	pend.Zones[0].Pend, pend.Zones[0].To = api.DirMove, 9
	plans(t, "a move that is pending counts", pend, []int{8, 9, 10}, []row{{Zone: 1, Hits: 9, Middle: ""}, {Zone: 2, Hits: 8, Middle: ""}, {Zone: 3, Hits: 7, Middle: ""}, {Zone: 4, Hits: 6, Middle: ""}}, none, move(2, 10))
	pend.Zones[3].Pend, pend.Zones[3].To = api.DirMove, 10
	plans(t, "two that are pending", pend, []int{8, 9, 10, 11}, []row{{Zone: 1, Hits: 9, Middle: ""}, {Zone: 2, Hits: 8, Middle: ""}, {Zone: 3, Hits: 7, Middle: ""}, {Zone: 4, Hits: 6, Middle: ""}}, none)
	plans(t, "zones of others", mapOf(z(1, "", "b", 13), z(2, "b", "", 13)), []int{8, 9}, []row{{Zone: 1, Hits: 9, Middle: ""}, {Zone: 2, Hits: 8, Middle: ""}}, none)
	plans(t, "what is split stays", mapOf(a, b), []int{8, 9}, []row{{Zone: 1, Hits: 5, Middle: "c"}, {Zone: 2, Hits: 4, Middle: ""}}, plan.Limits{Hot: 4, Cold: 0}, split(1, "c"), move(2, 9))
	plans(t, "a great load", mapOf(a, b), []int{8, 9}, []row{{Zone: 1, Hits: math.MaxInt, Middle: ""}, {Zone: 2, Hits: math.MaxInt, Middle: ""}}, none, move(1, 9))
	merging := mapOf(a, b, z(3, "", "", 8))
	merging.Zones = []api.Zone{z(1, "", "c", 8), z(2, "c", "f", 8), z(3, "f", "", 8)}
	merging.Zones[0].Pend, merging.Zones[0].New = api.DirMerge, 2
	merging.Zones[1].Pend, merging.Zones[1].New = api.DirMerge, 1
	plans(t, "what is merged stays", merging, []int{8, 9}, []row{{Zone: 1, Hits: 9, Middle: ""}, {Zone: 2, Hits: 8, Middle: ""}, {Zone: 3, Hits: 2, Middle: ""}}, none, move(3, 9))
}

func TestMerges(t *testing.T) {
	m := mapOf(z(9, "", "b", 8), z(4, "b", "c", 8), z(3, "c", "d", 8), z(6, "d", "e", 8), z(7, "e", "f", 9), z(1, "f", "", 9))
	cold := plan.Limits{Hot: math.MaxInt, Cold: 1}
	plans(t, "in the order of Spans", m, []int{8, 9}, nil, cold, merge(9), merge(3), merge(7))
	plans(t, "below Cold", m, []int{8, 9}, []row{{Zone: 9, Hits: 0, Middle: ""}, {Zone: 1, Hits: 2, Middle: ""}}, plan.Limits{Hot: math.MaxInt, Cold: 2}, merge(9), merge(3))
	plans(t, "the next pair", m, []int{8}, []row{{Zone: 9, Hits: 1, Middle: ""}}, cold, merge(4), merge(7))
	plans(t, "not below 0", m, []int{8, 9}, nil, plan.Limits{})
	m.Zones[1].Pend, m.Zones[1].To = api.DirMove, 9
	plans(t, "free ones", m, []int{8, 9}, nil, cold, merge(3), merge(7))
	plans(t, "unlike Owners", mapOf(z(1, "", "m", 8), z(2, "m", "", 9)), []int{8, 9}, nil, cold)
	plans(t, "what was named is not merged", mapOf(z(1, "", "c", 8), z(2, "c", "f", 8), z(3, "f", "i", 8), z(4, "i", "", 8)), []int{8, 9},
		[]row{{Zone: 1, Hits: 9, Middle: "b"}, {Zone: 2, Hits: 2, Middle: ""}, {Zone: 3, Hits: 1, Middle: ""}}, plan.Limits{Hot: 5, Cold: 100}, split(1, "b"), move(2, 9), move(3, 9))
}

// P20.2
func TestEachWouldBeApplied(t *testing.T) {
	draw := rand.New(rand.NewSource(12))
	planned := 0
	for range 60 {
		hosts := []int{8, 9, 10, 12}
		d, _ := dir.New(hosts...)
		for range 60 {
			m := d.Map()
			was := d.Map()
			var l []row
			for _, zone := range m.Zones {
				l = append(l, row{Zone: zone.ID, Hits: draw.Intn(40) - 2, Middle: string(rune('a'+draw.Intn(26))) + string(rune('a'+draw.Intn(26)))})
			}
			kept := slices.Clone(l)
			pending := 0
			for _, zone := range m.Zones {
				if zone.Pend == api.DirMove {
					pending++
				}
			}
			changes := plan.Make(m, hosts, l, plan.Limits{Hot: draw.Intn(40), Cold: draw.Intn(30)})
			if !slices.Equal(l, kept) || !reflect.DeepEqual(m, was) {
				t.Fatal("an argument changed")
			}
			moves := pending
			for _, c := range changes {
				if !d.Would(c) || !d.Apply(c) {
					t.Fatal("it would not be Applied:", c, changes, was)
				}
				if c.Kind == api.DirMove {
					moves++
				}
				planned++
			}
			if moves > max(api.MaxMoves, pending) {
				t.Fatal(moves)
			}
			for _, zone := range d.Map().Zones {
				if draw.Intn(2) == 0 {
					d.Apply(api.Change{Kind: api.DirDone, Zone: zone.ID, Epoch: zone.Epoch})
				}
			}
		}
	}
	if planned < 300 {
		t.Error("too little was planned:", planned)
	}
}
