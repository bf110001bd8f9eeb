package wire

import (
	"slices"

	"satrapy/api"
	"satrapy/dir"
	"satrapy/op"
	"satrapy/span"
)

const (
	maxNumber = 1 << 40
	maxSize   = 1 << 19
	maxData   = 1 << 17
	maxClient = 1 << 20
	maxErr    = api.ErrLimit
)

// May tells whether a word may be.
func May(w Word) bool {
	bare := Word{Kind: w.Kind}
	ok := false
	switch w.Kind {
	case Raft:
		bare.Data = w.Data
		ok = isData(w.Data, maxData)
	case Pull:
		bare.Index = w.Index
		ok = isNumber(w.Index)
	case Tell:
		bare.Map = w.Map
		ok = mayMap(w.Map)
	case Ask:
		bare.Change = w.Change
		_, err := dir.EncodeChange(w.Change)
		ok = err == api.OK
	case Call:
		bare.Op = w.Op
		ok = op.May(w.Op)
	case Answer:
		bare.Op, bare.Err, bare.Reply, bare.Host = w.Op, w.Err, w.Reply, w.Host
		ok = mayAnswer(w)
	case Copy, Copied, Ship, Shipped:
		bare, ok = ofZone(w)
	}
	return ok && alike(bare, w)
}

// ofZone is what a word of a zone may have, and whether that is in bounds.
func ofZone(w Word) (Word, bool) {
	bare := Word{Kind: w.Kind, Zone: w.Zone, Epoch: w.Epoch, Index: w.Index}
	ok := isNumber(w.Zone) && w.Zone > 0 && isNumber(w.Epoch) && w.Epoch > 0 && isNumber(w.Index)
	switch w.Kind {
	case Copy:
		bare.Size, bare.Offset, bare.Span, bare.Data = w.Size, w.Offset, w.Span, w.Data
		ok = ok && w.Size >= 1 && w.Size <= maxSize && w.Offset >= 0 && isData(w.Data, api.Chunk) &&
			w.Offset <= w.Size-len(w.Data) && span.Is(w.Span)
	case Copied:
		bare.Offset = w.Offset
		ok = ok && isNumber(w.Offset)
	case Ship:
		bare.Data = w.Data
		ok = ok && isData(w.Data, maxData)
	}
	return bare, ok
}

func mayAnswer(w Word) bool {
	if w.Op != (api.Op{Kind: w.Op.Kind, Client: w.Op.Client, Seq: w.Op.Seq}) {
		return false
	}
	if w.Op.Kind < api.OpMint || w.Op.Kind > api.OpDone || w.Op.Client < 1 || w.Op.Client > maxClient || w.Op.Seq < 1 || !isNumber(w.Op.Seq) {
		return false
	}
	if w.Err < 0 || w.Err > maxErr || !isNumber(w.Host) || w.Err != api.OK && w.Reply != (api.Reply{}) {
		return false
	}
	_, err := op.EncodeReply(w.Reply)
	return err == api.OK
}

// mayMap tells whether a map may be: just such a one comes back from its bytes.
func mayMap(m api.Map) bool {
	if len(m.Zones) > api.MaxZones {
		return false
	}
	back, err := dir.Decode(dir.Encode(m))
	return err == api.OK && sameMap(m, back)
}

func sameMap(a, b api.Map) bool {
	return a.Version == b.Version && a.Next == b.Next && slices.Equal(a.Zones, b.Zones)
}

// alike tells whether two words have the same in all fields.
func alike(a, b Word) bool {
	return a.Kind == b.Kind && a.Zone == b.Zone && a.Epoch == b.Epoch && a.Index == b.Index &&
		a.Size == b.Size && a.Offset == b.Offset && a.Host == b.Host && a.Err == b.Err &&
		a.Span == b.Span && a.Op == b.Op && a.Reply == b.Reply && sameMap(a.Map, b.Map) &&
		a.Change == b.Change && slices.Equal(a.Data, b.Data)
}

func isNumber(n int) bool { return n >= 0 && n <= maxNumber }

func isData(b []byte, most int) bool { return len(b) >= 1 && len(b) <= most }
