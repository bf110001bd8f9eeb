package dir

import (
	"satrapy/api"
	"satrapy/octet"
)

// Encode is a map as bytes.
func Encode(m api.Map) []byte {
	var w octet.Writer
	w.Nums(m.Version, m.Next, len(m.Zones))
	for _, z := range m.Zones {
		w.Nums(z.ID)
		w.Bytes([]byte(z.Span.From), []byte(z.Span.To))
		w.Nums(z.Owner, z.Epoch, z.Pend, z.To)
		w.Bytes([]byte(z.Key))
		w.Nums(z.New)
	}
	return w.Out()
}

// Decode is the way back.
func Decode(b []byte) (api.Map, api.Errno) {
	var m api.Map
	n := 0
	r := octet.NewReader(b)
	r.Nums(&m.Version, &m.Next, &n)
	if n > api.MaxZones {
		return api.Map{}, api.ErrForm
	}
	for range n {
		m.Zones = append(m.Zones, takeZone(r))
	}
	if !r.Whole() || !mayMap(m) {
		return api.Map{}, api.ErrForm
	}
	return m, api.OK
}

func takeZone(r *octet.Reader) api.Zone {
	var z api.Zone
	r.Nums(&z.ID)
	z.Span.From = string(r.Bytes())
	z.Span.To = string(r.Bytes())
	r.Nums(&z.Owner, &z.Epoch, &z.Pend, &z.To)
	z.Key = string(r.Bytes())
	r.Nums(&z.New)
	return z
}

// EncodeChange is a change as bytes.
func EncodeChange(c api.Change) ([]byte, api.Errno) {
	if !mayChange(c) {
		return nil, api.ErrArg
	}
	var w octet.Writer
	w.Nums(c.Kind, c.Zone, c.Epoch, c.To)
	w.Bytes([]byte(c.Key))
	return w.Out(), api.OK
}

// DecodeChange is the way back.
func DecodeChange(b []byte) (api.Change, api.Errno) {
	var c api.Change
	r := octet.NewReader(b)
	r.Nums(&c.Kind, &c.Zone, &c.Epoch, &c.To)
	c.Key = string(r.Bytes())
	if !r.Whole() || !mayChange(c) {
		return api.Change{}, api.ErrForm
	}
	return c, api.OK
}
