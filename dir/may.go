package dir

import (
	"satrapy/api"
	"satrapy/span"
)

func areHosts(hosts []int) bool {
	if len(hosts) < 1 || len(hosts) > api.MaxHosts {
		return false
	}
	ahead := api.FirstHost - 1
	for _, h := range hosts {
		if h <= ahead || h >= api.FirstHost+api.MaxHosts {
			return false
		}
		ahead = h
	}
	return true
}

func mayMap(m api.Map) bool {
	if !within(m.Version, 1, maxNumber) || !within(m.Next, 1, maxNumber) || len(m.Zones) > api.MaxZones {
		return false
	}
	var spans []api.Span
	ids := map[int]int{} // how many zones, and splits that are pending, have an ID
	for _, z := range m.Zones {
		spans = append(spans, z.Span)
		ids[z.ID]++
		if z.Pend == api.DirSplit {
			ids[z.New]++
		}
	}
	for id, n := range ids {
		if n > 1 || !within(id, 1, m.Next-1) {
			return false
		}
	}
	for at := range m.Zones {
		if !mayZone(m.Zones, at) {
			return false
		}
	}
	return span.All(spans...)
}

// mayZone tells whether the zone at a place may be, but for its ID and its Span.
func mayZone(zones []api.Zone, at int) bool {
	z := zones[at]
	if !within(z.Owner, 1, maxOwner) || !within(z.Epoch, 1, maxNumber) {
		return false
	}
	switch z.Pend {
	case 0:
		return z.To == 0 && z.Key == "" && z.New == 0
	case api.DirMove:
		return within(z.To, 1, maxOwner) && z.To != z.Owner && z.Key == "" && z.New == 0
	case api.DirSplit:
		_, _, cuts := span.Cut(z.Span, z.Key)
		return cuts && z.To == 0
	case api.DirMerge:
		return z.To == 0 && z.Key == "" && (at > 0 && merge(z, zones[at-1]) || at+1 < len(zones) && merge(z, zones[at+1]))
	}
	return false
}

// merge tells whether two zones that stand side by side become one.
func merge(a, b api.Zone) bool {
	return a.Pend == api.DirMerge && b.Pend == api.DirMerge && a.Owner == b.Owner && a.New == b.ID && b.New == a.ID
}

func mayChange(c api.Change) bool {
	may := api.Change{Kind: c.Kind, Zone: c.Zone}
	ok := false
	switch c.Kind {
	case api.DirSplit:
		may.Key = c.Key
		ok = within(len(c.Key), 1, api.MaxKey)
	case api.DirMerge:
		ok = true
	case api.DirMove:
		may.To = c.To
		ok = within(c.To, 1, maxOwner)
	case api.DirDone, api.DirAbort:
		may.Epoch = c.Epoch
		ok = within(c.Epoch, 1, maxNumber)
	}
	return ok && within(c.Zone, 1, maxNumber) && may == c
}

func within(n, least, most int) bool { return n >= least && n <= most }
