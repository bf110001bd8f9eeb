package journal_test

import (
	"bytes"
	"fmt"
	"math"
	"slices"
	"strings"
	"testing"

	"satrapy/api"
	"satrapy/disk"
	"satrapy/frame"
	"satrapy/journal"
	"satrapy/keep"
	"satrapy/octet"
)

const top = 1 << 40

func fresh(t *testing.T) *disk.Disk {
	t.Helper()
	d, err := disk.New(1 << 22)
	if err != api.OK {
		t.Fatal(err)
	}
	return d
}

func open(t *testing.T, d *disk.Disk, nodes ...int) *journal.Journal {
	t.Helper()
	j, err := journal.Open(d, "p", nodes...)
	if err != api.OK || j == nil {
		t.Fatal("Open:", err)
	}
	return j
}

func want(t *testing.T, what string, got, want api.Errno) {
	t.Helper()
	if got != want {
		t.Errorf("%s: %v, not %v", what, got, want)
	}
}

func data(term int, s string) api.Entry {
	return api.Entry{Term: term, Kind: api.EntryData, Data: []byte(s)}
}

func group(term int, nodes ...int) api.Entry {
	return api.Entry{Term: term, Kind: api.EntryConfig, Nodes: nodes}
}

// state is all that a journal says.
func state(j *journal.Journal) string {
	var s strings.Builder
	term, vote := j.Term()
	base, baseTerm := j.Base()
	last, lastTerm := j.Last()
	snap, of := j.Snapshot()
	nodes, at := j.Nodes()
	fmt.Fprint(&s, "term ", term, " ", vote, " base ", base, " ", baseTerm, " ", of, " ", string(snap), " last ", last, " ", lastTerm, " nodes ", nodes, " ", at)
	for i := base + 1; i <= last; i++ {
		e, err := j.At(i)
		fmt.Fprint(&s, " | ", e.Term, " ", e.Kind, " ", string(e.Data), " ", e.Nodes, " ", int(err))
	}
	return s.String()
}

// row is a row of a log by hand.
func row(tag byte, f func(w *octet.Writer)) []byte {
	var w octet.Writer
	w.Raw(tag)
	f(&w)
	return w.Out()
}

func nums(tag byte, v ...int) []byte {
	return row(tag, func(w *octet.Writer) { w.Nums(v...) })
}

func entry(index, term, kind int, data string, nodes ...int) []byte {
	return row(3, func(w *octet.Writer) {
		w.Nums(index, term, kind)
		w.Bytes([]byte(data))
		w.Nums(len(nodes))
		w.Nums(nodes...)
	})
}

func snapshot(index, term int, data string, nodes ...int) []byte {
	var w octet.Writer
	w.Nums(index, term, len(nodes))
	w.Nums(nodes...)
	w.Bytes([]byte(data))
	return w.Out()
}

// logOf lays a log of these rows on a disk.
func logOf(t *testing.T, d *disk.Disk, rows ...[]byte) {
	t.Helper()
	for _, r := range rows {
		b, _ := frame.Encode(r)
		if err := d.Append("p-log", b); err != api.OK {
			t.Fatal(err)
		}
	}
	d.Sync("p-log")
}

func records(rows ...[]byte) []byte {
	var all []byte
	for _, r := range rows {
		b, _ := frame.Encode(r)
		all = append(all, b...)
	}
	return all
}

// P5.1
func TestOpenErrArg(t *testing.T) {
	d := fresh(t)
	for name, c := range map[string]struct {
		d      *disk.Disk
		prefix string
		nodes  []int
	}{
		"no disk":        {nil, "p", []int{0}},
		"no prefix":      {d, "", []int{0}},
		"a long prefix":  {d, strings.Repeat("p", 21), []int{0}},
		"no nodes":       {d, "p", nil},
		"too many nodes": {d, "p", []int{0, 1, 2, 3, 4, 5, 6, 7}},
		"not rising":     {d, "p", []int{1, 0}},
		"twice the same": {d, "p", []int{1, 1}},
		"below 0":        {d, "p", []int{-1, 0}},
		"too great":      {d, "p", []int{0, api.MaxNodes}},
	} {
		if j, err := journal.Open(c.d, c.prefix, c.nodes...); j != nil || err != api.ErrArg {
			t.Error(name, err)
		}
	}
	if len(d.List()) != 0 {
		t.Error(d.List())
	}
	if _, err := journal.Open(d, strings.Repeat("p", 20), 0, 1, 2, 3, 4, 5, 6); err != api.OK {
		t.Error(err)
	}
}

func TestOpenOfNothing(t *testing.T) {
	d := fresh(t)
	j := open(t, d, 1, 3)
	if s := state(j); s != "term 0 -1 base 0 0 [1 3]  last 0 0 nodes [1 3] 0" {
		t.Error(s)
	}
	if !slices.Equal(d.List(), []string{"p-log"}) {
		t.Error(d.List())
	}
	d.Crash(0)
	if b, _ := d.Read("p-log"); !bytes.Equal(b, records(nums(1, 0, 0, 2, 1, 3), nums(2, 0, 0))) {
		t.Errorf("% x", b)
	}
	if s := state(open(t, d, 2)); s != state(j) {
		t.Error("the group is the disk's:", s)
	}
}

func TestWhatIsWritten(t *testing.T) {
	d := fresh(t)
	j := open(t, d, 0, 1)
	first := records(nums(1, 0, 0, 2, 0, 1), nums(2, 0, 0))
	want(t, "SetTerm", j.SetTerm(3, 1), api.OK)
	want(t, "Append", j.Append(data(3, "xy"), group(3, 0, 1, 2), api.Entry{Term: 3}), api.OK)
	want(t, "Cut", j.Cut(3), api.OK)
	all := append(first, records(nums(2, 3, 2), entry(1, 3, 1, "xy"), entry(2, 3, 2, "", 0, 1, 2), entry(3, 3, 0, ""), nums(4, 3))...)
	d.Crash(0)
	if b, _ := d.Read("p-log"); !bytes.Equal(b, all) {
		t.Errorf("% x\nnot\n% x", b, all)
	}
	want(t, "Compact", j.Compact(1, []byte("snap")), api.OK)
	d.Crash(0)
	if b, _ := d.Read("p-log"); !bytes.Equal(b, records(nums(1, 1, 3, 2, 0, 1), nums(2, 3, 2), entry(2, 3, 2, "", 0, 1, 2))) {
		t.Errorf("anew: % x", b)
	}
	if b, err := keep.Load(d, "p-snap"); err != api.OK || !bytes.Equal(b, snapshot(1, 3, "snap", 0, 1)) {
		t.Errorf("snapshot: % x, %v", b, err)
	}
	if s, r := state(open(t, d, 6)), state(j); s != r {
		t.Errorf("%s\nnot\n%s", s, r)
	}
}

func TestOpenErrForm(t *testing.T) {
	first := nums(1, 0, 0, 1, 0)
	for name, rows := range map[string][][]byte{
		"an empty record first":     {{}},
		"another first":             {nums(2, 0, 0)},
		"a first that goes on":      {append(bytes.Clone(first), 0)},
		"a first that ends":         {first[:3]},
		"a first without a group":   {nums(1, 0, 0, 0)},
		"a group that falls":        {nums(1, 0, 0, 2, 1, 0)},
		"too many nodes":            {nums(1, 0, 0, 8, 0, 1, 2, 3, 4, 5, 6, 7)},
		"very many nodes":           {nums(1, 0, 0, 1<<60, 0)},
		"a base above 2^40":         {nums(1, top+1, 0, 1, 0)},
		"a base's term above 2^40":  {nums(1, 0, top+1, 1, 0)},
		"a base without a snapshot": {nums(1, 1, 0, 1, 0)},
		"a second first":            {first, first},
		"another tag":               {first, nums(5, 1)},
		"tag 0":                     {first, nums(0, 1)},
		"nothing":                   {first, {}},
		"a term that ends":          {first, nums(2, 1)},
		"a term that goes on":       {first, nums(2, 1, 1, 1)},
		"a term above 2^40":         {first, nums(2, top+1, 0)},
		"a vote above all":          {first, nums(2, 1, 8)},
		"a lesser term":             {first, nums(2, 2, 0), nums(2, 1, 0)},
		"another vote":              {first, nums(2, 2, 1), nums(2, 2, 2)},
		"a number left out":         {first, entry(2, 1, 0, "")},
		"a number twice":            {first, entry(1, 1, 0, ""), entry(1, 1, 0, "")},
		"number 0":                  {first, entry(0, 1, 0, "")},
		"an entry's term":           {first, entry(1, top+1, 0, "")},
		"an empty one with data":    {first, entry(1, 1, 0, "x")},
		"an empty one with nodes":   {first, entry(1, 1, 0, "", 1)},
		"data without data":         {first, entry(1, 1, 1, "")},
		"data with nodes":           {first, entry(1, 1, 1, "x", 1)},
		"data that are too long":    {first, entry(1, 1, 1, strings.Repeat("x", 65537))},
		"a group without nodes":     {first, entry(1, 1, 2, "")},
		"a group with data":         {first, entry(1, 1, 2, "x", 1)},
		"a group with 7":            {first, entry(1, 1, 2, "", 7)},
		"another kind":              {first, entry(1, 1, 3, "")},
		"an entry that goes on":     {first, append(entry(1, 1, 0, ""), 0)},
		"an entry that ends":        {first, nums(3, 1, 1)},
		"a cut at 0":                {first, nums(4, 0)},
		"a cut beyond":              {first, entry(1, 1, 0, ""), nums(4, 3)},
		"a cut that goes on":        {first, entry(1, 1, 0, ""), nums(4, 1, 1)},
		"a cut of nothing said":     {first, nums(4)},
	} {
		d := fresh(t)
		logOf(t, d, rows...)
		if j, err := journal.Open(d, "p", 0); err != api.ErrForm || j != nil {
			t.Errorf("%s: %v", name, err)
		}
	}
	d := fresh(t)
	d.Append("p-log")
	if _, err := journal.Open(d, "p", 0); err != api.ErrForm {
		t.Error("an empty log:", err)
	}
	d = fresh(t)
	d.Append("p-log", records(first)[:9])
	if _, err := journal.Open(d, "p", 0); err != api.ErrForm {
		t.Error("a torn first:", err)
	}
}

func TestOpenOfLogs(t *testing.T) {
	first := nums(1, 0, 0, 1, 0)
	for name, c := range map[string]struct {
		rows [][]byte
		want string
	}{
		"the first alone":     {[][]byte{first}, "term 0 -1 base 0 0 [0]  last 0 0 nodes [0] 0"},
		"votes":               {[][]byte{first, nums(2, 1, 0), nums(2, 1, 3), nums(2, 1, 3), nums(2, top, 7)}, "term 1099511627776 6 base 0 0 [0]  last 0 0 nodes [0] 0"},
		"a cut at the end":    {[][]byte{first, entry(1, 1, 0, ""), nums(4, 2)}, "term 0 -1 base 0 0 [0]  last 1 1 nodes [0] 0 | 1 0  [] 0"},
		"a cut at the base":   {[][]byte{first, nums(4, 1)}, "term 0 -1 base 0 0 [0]  last 0 0 nodes [0] 0"},
		"seven nodes":         {[][]byte{nums(1, 0, 0, 7, 0, 1, 2, 3, 4, 5, 6), entry(1, top, 2, "", 0, 1, 2, 3, 4, 5, 6)}, "term 0 -1 base 0 0 [0 1 2 3 4 5 6]  last 1 1099511627776 nodes [0 1 2 3 4 5 6] 1 | 1099511627776 2  [0 1 2 3 4 5 6] 0"},
		"a cut and once more": {[][]byte{first, entry(1, 1, 2, "", 3), entry(2, 1, 0, ""), nums(4, 1), entry(1, 2, 1, "z")}, "term 0 -1 base 0 0 [0]  last 1 2 nodes [0] 0 | 2 1 z [] 0"},
	} {
		d := fresh(t)
		logOf(t, d, c.rows...)
		if s := state(open(t, d, 5)); s != c.want {
			t.Errorf("%s: %s", name, s)
		}
	}
}

func TestOpenCutsTheTail(t *testing.T) {
	good := records(nums(1, 0, 0, 1, 0), nums(2, 4, 1), entry(1, 4, 1, "x"))
	more := records(entry(2, 4, 1, "y"))
	spoilt := bytes.Clone(more)
	spoilt[10] ^= 1
	for name, tail := range map[string][]byte{"torn": more[:7], "nearly whole": more[:len(more)-1], "spoilt": append(spoilt, more...)} {
		d := fresh(t)
		d.Append("p-log", good, tail)
		d.Append("p-log~", []byte("left"))
		d.Append("p-snap~", []byte("left"))
		d.Append("p-other~", nil)
		d.Fuse(4)
		j := open(t, d, 0)
		want(t, "two Removes, Truncate, Sync", d.Append("q"), api.ErrDead)
		d.Crash(0)
		if b, _ := d.Read("p-log"); !bytes.Equal(b, good) || !slices.Equal(d.List(), []string{"p-log", "p-other~"}) {
			t.Errorf("%s: % x, %q", name, b, d.List())
		}
		if last, _ := j.Last(); last != 1 {
			t.Error(name, last)
		}
	}
	d := fresh(t)
	logOf(t, d, nums(1, 0, 0, 1, 0))
	d.Fuse(0)
	open(t, d, 0) // nothing is to be done
	d.Fuse(-1)
	d.Append("p-log", []byte("torn"))
	d.Fuse(0)
	if j, err := journal.Open(d, "p", 0); err != api.ErrDead || j != nil {
		t.Error("an error of the disk:", err)
	}
	d = fresh(t)
	d.Fuse(2)
	if j, err := journal.Open(d, "p", 0); err != api.ErrDead || j != nil {
		t.Error("an error of the disk:", err)
	}
	small, _ := disk.New(10)
	if j, err := journal.Open(small, "p", 0); err != api.ErrFull || j != nil {
		t.Error("no room:", err)
	}
}

func TestOpenWithASnapshot(t *testing.T) {
	for name, c := range map[string]struct {
		snap []byte
		rows [][]byte
		want string // empty: ErrForm
	}{
		"no log":          {snapshot(7, 3, "s", 1, 2), nil, "term 0 -1 base 7 3 [1 2] s last 7 3 nodes [1 2] 7"},
		"of the base":     {snapshot(7, 3, "s", 1, 2), [][]byte{nums(1, 7, 3, 2, 1, 2), entry(8, 4, 0, "")}, "term 0 -1 base 7 3 [1 2] s last 8 4 nodes [1 2] 7 | 4 0  [] 0"},
		"of an entry":     {snapshot(2, 3, "s", 1, 2), [][]byte{nums(1, 0, 0, 1, 0), entry(1, 3, 0, ""), entry(2, 3, 0, ""), entry(3, 4, 1, "z")}, "term 0 -1 base 2 3 [1 2] s last 3 4 nodes [1 2] 2 | 4 1 z [] 0"},
		"of another term": {snapshot(2, 4, "s", 1, 2), [][]byte{nums(1, 0, 0, 1, 0), nums(2, 5, 0), entry(1, 3, 0, ""), entry(2, 3, 0, ""), entry(3, 4, 1, "z")}, "term 5 -1 base 2 4 [1 2] s last 2 4 nodes [1 2] 2"},
		"above all":       {snapshot(9, 3, "s", 1, 2), [][]byte{nums(1, 0, 0, 1, 0), entry(1, 3, 0, "")}, "term 0 -1 base 9 3 [1 2] s last 9 3 nodes [1 2] 9"},
		"below the base":  {snapshot(6, 3, "s", 1, 2), [][]byte{nums(1, 7, 3, 2, 1, 2)}, ""},
		"of number 0":     {snapshot(0, 3, "s", 1, 2), nil, ""},
		"of 2^40 and 1":   {snapshot(top+1, 3, "s", 1, 2), nil, ""},
		"of a great term": {snapshot(3, top+1, "s", 1, 2), nil, ""},
		"at the bounds":   {snapshot(top, top, "", 6), nil, "term 0 -1 base 1099511627776 1099511627776 [6]  last 1099511627776 1099511627776 nodes [6] 1099511627776"},
		"up to 2^40":      {snapshot(top-1, 3, "", 6), [][]byte{nums(1, top-1, 3, 1, 6), entry(top, 3, 0, "")}, "term 0 -1 base 1099511627775 3 [6]  last 1099511627776 3 nodes [6] 1099511627775 | 3 0  [] 0"},
		"of no group":     {snapshot(3, 3, "s"), nil, ""},
		"that goes on":    {append(snapshot(3, 3, "s", 1), 0), nil, ""},
		"that ends":       {snapshot(3, 3, "s", 1)[:4], nil, ""},
		"beyond 2^40":     {snapshot(top, 3, "s", 1), [][]byte{nums(1, top, 3, 1, 1), entry(top+1, 3, 0, "")}, ""},
	} {
		d := fresh(t)
		keep.Save(d, "p-snap", c.snap)
		if c.rows != nil {
			logOf(t, d, c.rows...)
		}
		j, err := journal.Open(d, "p", 0)
		if c.want == "" {
			if err != api.ErrForm || j != nil {
				t.Errorf("%s: %v", name, err)
			}
			continue
		}
		if err != api.OK || state(j) != c.want {
			t.Errorf("%s: %s, %v", name, state(j), err)
			continue
		}
		d.Crash(0)
		if s := state(open(t, d, 0)); s != c.want {
			t.Errorf("%s, once more: %s", name, s)
		}
	}
	d := fresh(t)
	d.Append("p-snap", []byte("no record"))
	if j, err := journal.Open(d, "p", 0); err != api.ErrForm || j != nil {
		t.Error("a snapshot that is no record:", err)
	}
}

// P5.2
func TestSetTerm(t *testing.T) {
	d := fresh(t)
	j := open(t, d, 0)
	for _, c := range []struct {
		term, vote int
		want       api.Errno
	}{
		{-1, -1, api.ErrArg}, {0, -2, api.ErrArg}, {0, 7, api.ErrArg}, {top + 1, 0, api.ErrArg}, {math.MaxInt, 0, api.ErrArg}, {1, math.MinInt, api.ErrArg},
		{0, -1, api.OK}, {2, -1, api.OK}, {2, 6, api.OK}, {2, 6, api.OK}, {2, 5, api.ErrArg}, {2, -1, api.ErrArg}, {1, 6, api.ErrArg}, {3, 5, api.OK}, {top, 0, api.OK},
	} {
		if err := j.SetTerm(c.term, c.vote); err != c.want {
			t.Errorf("SetTerm(%d, %d): %v, not %v", c.term, c.vote, err, c.want)
		}
		if term, vote := j.Term(); c.want == api.OK && (term != c.term || vote != c.vote) {
			t.Errorf("SetTerm(%d, %d): Term %d, %d", c.term, c.vote, term, vote)
		}
	}
	if term, vote := j.Term(); term != top || vote != 0 {
		t.Error(term, vote)
	}
	d.Fuse(0)
	want(t, "nothing to do", j.SetTerm(top, 0), api.OK)
	d.Fuse(-1)
	d.Crash(0)
	if term, vote := open(t, d, 0).Term(); term != top || vote != 0 {
		t.Error("behind a crash", term, vote)
	}
}

func TestAppend(t *testing.T) {
	d := fresh(t)
	j := open(t, d, 0)
	for name, e := range map[string]api.Entry{
		"a term below 0":     {Term: -1},
		"a term above 2^40":  {Term: top + 1},
		"a kind":             {Kind: 3},
		"a kind below 0":     {Kind: -1},
		"empty with data":    {Data: []byte("x")},
		"empty with nodes":   {Nodes: []int{1}},
		"no data":            {Kind: 1},
		"data and nodes":     {Kind: 1, Data: []byte("x"), Nodes: []int{1}},
		"data too long":      {Kind: 1, Data: make([]byte, 65537)},
		"no nodes":           {Kind: 2},
		"nodes with data":    {Kind: 2, Nodes: []int{1}, Data: []byte("x")},
		"nodes that fall":    {Kind: 2, Nodes: []int{2, 1}},
		"nodes beyond":       {Kind: 2, Nodes: []int{7}},
		"too many nodes too": {Kind: 2, Nodes: []int{0, 1, 2, 3, 4, 5, 6, 6}},
	} {
		want(t, name, j.Append(data(1, "a"), e), api.ErrArg)
	}
	if last, _ := j.Last(); last != 0 {
		t.Error("something was laid", last)
	}
	d.Fuse(4)
	want(t, "two at once", j.Append(data(1, "a"), api.Entry{Term: top, Data: []byte{}, Nodes: []int{}}), api.OK)
	want(t, "none", j.Append(), api.OK)
	want(t, "one", j.Append(api.Entry{Kind: 1, Data: make([]byte, 65536)}), api.OK)
	want(t, "Append and Sync, twice", d.Append("q"), api.ErrDead)
	if last, term := j.Last(); last != 3 || term != 0 {
		t.Error(last, term)
	}
	want(t, "none, when all is done", j.Append(), api.OK)
}

func TestAppendAtTheBound(t *testing.T) {
	d := fresh(t)
	j := open(t, d, 0)
	want(t, "Install", j.Install(top-1, 1, []int{0}, nil), api.OK)
	want(t, "two", j.Append(data(1, "a"), data(1, "b")), api.ErrArg)
	want(t, "one", j.Append(data(1, "a")), api.OK)
	want(t, "one more", j.Append(data(1, "b")), api.ErrArg)
	want(t, "none", j.Append(), api.OK)
	if last, _ := j.Last(); last != top {
		t.Error(last)
	}
}

func TestCut(t *testing.T) {
	d := fresh(t)
	j := open(t, d, 0)
	j.Append(data(1, "a"), data(1, "b"), data(2, "c"), data(3, "d"))
	j.Compact(1, nil)
	for _, from := range []int{1, 0, -1, math.MinInt} {
		want(t, "at the base", j.Cut(from), api.ErrArg)
	}
	d.Fuse(0)
	want(t, "behind the last", j.Cut(5), api.OK)
	want(t, "far behind", j.Cut(math.MaxInt), api.OK)
	d.Fuse(2)
	want(t, "Cut", j.Cut(3), api.OK)
	want(t, "Append and Sync", d.Append("q"), api.ErrDead)
	d.Crash(0)
	for _, j := range []*journal.Journal{j, open(t, d, 0)} {
		if s := state(j); s != "term 0 -1 base 1 1 [0]  last 2 1 nodes [0] 1 | 1 1 b [] 0" {
			t.Error(s)
		}
	}
	want(t, "all of it", j.Cut(2), api.OK)
	if last, term := j.Last(); last != 1 || term != 1 {
		t.Error(last, term)
	}
}

func TestCompact(t *testing.T) {
	d := fresh(t)
	j := open(t, d, 0, 1)
	j.SetTerm(4, 1)
	j.Append(data(1, "a"), group(2, 0, 1, 2), data(3, "c"), group(4, 1, 2))
	for _, index := range []int{0, -1, 5, math.MaxInt, math.MinInt} {
		want(t, "no such entry", j.Compact(index, nil), api.ErrArg)
	}
	want(t, "long data", j.Compact(1, make([]byte, 1<<19+1)), api.ErrArg)
	want(t, "Compact", j.Compact(3, []byte("one")), api.OK)
	for _, j := range []*journal.Journal{j, open(t, d, 6)} {
		if s := state(j); s != "term 4 1 base 3 3 [0 1 2] one last 4 4 nodes [1 2] 4 | 4 2  [1 2] 0" {
			t.Error(s)
		}
	}
	want(t, "the base", j.Compact(3, nil), api.ErrArg)
	d.Append("p-log~", []byte("left behind"))
	d.Append("p-snap~", []byte("left behind"))
	want(t, "the most data", j.Compact(4, make([]byte, 1<<19)), api.OK)
	if l := d.List(); !slices.Equal(l, []string{"p-log", "p-snap"}) {
		t.Errorf("%q", l)
	}
	want(t, "it lives", j.SetTerm(5, 0), api.OK)
	d.Crash(0)
	j = open(t, d, 6)
	if index, term := j.Base(); index != 4 || term != 4 {
		t.Error(index, term)
	}
	if b, nodes := j.Snapshot(); len(b) != 1<<19 || !slices.Equal(nodes, []int{1, 2}) {
		t.Error(len(b), nodes)
	}
	j.Append(data(4, "e"))
	want(t, "a group of the base", j.Compact(5, nil), api.OK)
	if nodes, index := j.Nodes(); !slices.Equal(nodes, []int{1, 2}) || index != 5 {
		t.Error(nodes, index)
	}
}

func TestInstall(t *testing.T) {
	d := fresh(t)
	j := open(t, d, 0)
	j.Append(data(1, "a"), data(1, "b"), data(2, "c"))
	j.Compact(1, nil)
	for name, err := range map[string]api.Errno{
		"the base":      j.Install(1, 1, []int{0}, nil),
		"below 0":       j.Install(math.MinInt, 1, []int{0}, nil),
		"above 2^40":    j.Install(top+1, 1, []int{0}, nil),
		"a term":        j.Install(2, -1, []int{0}, nil),
		"a great term":  j.Install(2, top+1, []int{0}, nil),
		"no nodes":      j.Install(2, 1, nil, nil),
		"nodes":         j.Install(2, 1, []int{0, 0}, nil),
		"too many data": j.Install(2, 1, []int{0}, make([]byte, 1<<19+1)),
	} {
		want(t, name, err, api.ErrArg)
	}
	want(t, "of an entry", j.Install(2, 1, []int{3, 4}, []byte("s")), api.OK)
	for _, j := range []*journal.Journal{j, open(t, d, 0)} {
		if s := state(j); s != "term 0 -1 base 2 1 [3 4] s last 3 2 nodes [3 4] 2 | 2 1 c [] 0" {
			t.Error(s)
		}
	}
	want(t, "of another term", j.Install(3, 1, []int{5}, []byte("u")), api.OK)
	for _, j := range []*journal.Journal{j, open(t, d, 0)} {
		if s := state(j); s != "term 0 -1 base 3 1 [5] u last 3 1 nodes [5] 3" {
			t.Error(s)
		}
	}
	want(t, "of term 0", j.Install(4, 0, []int{5}, nil), api.OK)
	want(t, "beyond", j.Install(top, top, []int{6}, make([]byte, 1<<19)), api.OK)
	if index, term := open(t, d, 0).Last(); index != top || term != top {
		t.Error(index, term)
	}
}

func TestDead(t *testing.T) {
	change := map[string]func(j *journal.Journal) api.Errno{
		"SetTerm": func(j *journal.Journal) api.Errno { return j.SetTerm(9, 1) },
		"Append":  func(j *journal.Journal) api.Errno { return j.Append(data(9, "z")) },
		"Cut":     func(j *journal.Journal) api.Errno { return j.Cut(2) },
		"Compact": func(j *journal.Journal) api.Errno { return j.Compact(2, []byte("s")) },
		"Install": func(j *journal.Journal) api.Errno { return j.Install(8, 1, []int{0}, []byte("s")) },
	}
	steps := map[string]int{"SetTerm": 2, "Append": 2, "Cut": 2, "Compact": 6, "Install": 6}
	for name, f := range change {
		for fuse := range steps[name] + 1 {
			d := fresh(t)
			j := open(t, d, 0)
			j.Append(data(1, "a"), data(1, "b"))
			d.Fuse(fuse)
			err := f(j)
			d.Fuse(-1)
			if fuse == steps[name] {
				want(t, name, err, api.OK)
				want(t, "not dead", j.Append(data(9, "y")), api.OK)
				continue
			}
			want(t, name, err, api.ErrDead)
			for other, g := range change {
				want(t, other+" of a dead one", g(j), api.ErrDead)
			}
			want(t, "wrong, of a dead one", j.SetTerm(-1, 0), api.ErrDead)
			want(t, "nothing, of a dead one", j.Append(), api.ErrDead)
			want(t, "no group, of a dead one", j.Install(8, 1, nil, nil), api.ErrDead)
			want(t, "no entry, of a dead one", j.Compact(99, nil), api.ErrDead)
			want(t, "the base, of a dead one", j.Cut(0), api.ErrDead)
		}
	}
	small, _ := disk.New(120)
	j, err := journal.Open(small, "p", 0)
	want(t, "Open", err, api.OK)
	want(t, "no room", j.Append(api.Entry{Kind: 1, Data: make([]byte, 200)}), api.ErrFull)
	want(t, "dead of that", j.SetTerm(1, 1), api.ErrDead)
}

// P5.3
func TestReading(t *testing.T) {
	d := fresh(t)
	j := open(t, d, 0, 1)
	if term, ok := j.TermAt(0); term != 0 || !ok {
		t.Error("the base is there", term, ok)
	}
	j.Append(data(2, "a"), group(3, 0, 1, 2), data(5, "c"))
	j.Compact(1, []byte("s"))
	for _, c := range []struct {
		index, term int
		ok          bool
	}{{0, 0, false}, {1, 2, true}, {2, 3, true}, {3, 5, true}, {4, 0, false}, {-1, 0, false}, {math.MaxInt, 0, false}, {math.MinInt, 0, false}} {
		if term, ok := j.TermAt(c.index); term != c.term || ok != c.ok {
			t.Errorf("TermAt(%d): %d, %v", c.index, term, ok)
		}
	}
	for _, index := range []int{0, 1, 4, -1, math.MaxInt, math.MinInt} {
		if e, err := j.At(index); err != api.ErrNone || e.Term != 0 || e.Kind != 0 || len(e.Data) != 0 || len(e.Nodes) != 0 {
			t.Errorf("At(%d): %v, %v", index, e, err)
		}
	}
	if e, err := j.At(3); err != api.OK || e.Term != 5 || e.Kind != 1 || string(e.Data) != "c" || len(e.Nodes) != 0 {
		t.Error(e, err)
	}
	if nodes, index := j.Nodes(); !slices.Equal(nodes, []int{0, 1, 2}) || index != 2 {
		t.Error(nodes, index)
	}
	j.Cut(2)
	if nodes, index := j.Nodes(); !slices.Equal(nodes, []int{0, 1}) || index != 1 {
		t.Error(nodes, index)
	}
	if b, nodes := j.Snapshot(); string(b) != "s" || !slices.Equal(nodes, []int{0, 1}) {
		t.Error(b, nodes)
	}
}

// P5.4

// script is steps of a journal, an Append of several as one; states: what it is behind each, an Append of
// several being as many.
func script() (steps []func(j *journal.Journal) api.Errno, singles [][]func(j *journal.Journal) api.Errno) {
	add := func(f func(j *journal.Journal) api.Errno) {
		steps, singles = append(steps, f), append(singles, []func(j *journal.Journal) api.Errno{f})
	}
	several := func(l ...api.Entry) {
		steps = append(steps, func(j *journal.Journal) api.Errno { return j.Append(l...) })
		var each []func(j *journal.Journal) api.Errno
		for _, e := range l {
			each = append(each, func(j *journal.Journal) api.Errno { return j.Append(e) })
		}
		singles = append(singles, each)
	}
	add(func(j *journal.Journal) api.Errno { return j.SetTerm(1, -1) })
	add(func(j *journal.Journal) api.Errno { return j.SetTerm(1, 2) })
	several(data(1, "aaa"), group(1, 0, 1, 2), data(1, "ccccc"))
	add(func(j *journal.Journal) api.Errno { return j.Cut(3) })
	several(data(2, "d"), data(2, "e"))
	add(func(j *journal.Journal) api.Errno { return j.Compact(3, []byte("first")) })
	add(func(j *journal.Journal) api.Errno { return j.SetTerm(3, 0) })
	add(func(j *journal.Journal) api.Errno { return j.Install(4, 2, []int{1, 2}, []byte("second")) })
	several(data(3, "f"))
	add(func(j *journal.Journal) api.Errno { return j.Install(9, 3, []int{2}, []byte("third")) })
	several(data(3, "g"), data(3, "h"))
	add(func(j *journal.Journal) api.Errno { return j.Compact(11, []byte("fourth")) })
	return steps, singles
}

func TestBehindAnyCrash(t *testing.T) {
	steps, singles := script()
	states := []string{}
	ends := []int{0} // of each step: the place of the state behind it
	j := open(t, fresh(t), 0, 1)
	states = append(states, state(j))
	for _, each := range singles {
		for _, f := range each {
			want(t, "a step", f(j), api.OK)
			states = append(states, state(j))
		}
		ends = append(ends, len(states)-1)
	}
	for fuse := range 60 {
		for draw := range 40 {
			d := fresh(t)
			j := open(t, d, 0, 1)
			d.Fuse(fuse)
			done := 0
			for done < len(steps) && steps[done](j) == api.OK {
				done++
			}
			d.Crash(draw * 3)
			d.Fuse(draw % 7) // within an Open, too
			if j, err := journal.Open(d, "p", 5); err == api.OK {
				checkState(t, state(j), states[ends[done]:ends[min(done+1, len(steps))]+1], fuse, draw)
			}
			d.Crash(draw)
			checkState(t, state(open(t, d, 5)), states[ends[done]:ends[min(done+1, len(steps))]+1], fuse, draw)
		}
	}
}

func checkState(t *testing.T, got string, may []string, fuse, draw int) {
	t.Helper()
	if !slices.Contains(may, got) {
		t.Fatalf("fuse %d, draw %d: %s\nis none of\n%s", fuse, draw, got, strings.Join(may, "\n"))
	}
}

// P5.5
func TestNothingHandedInIsKept(t *testing.T) {
	d := fresh(t)
	nodes := append(make([]int, 0, 4), 0, 1)
	j, _ := journal.Open(d, "p", nodes...)
	nodes[0] = 9
	e := data(1, "abc")
	g := group(1, 0, 1, 2)
	l := append(make([]api.Entry, 0, 4), e, g)
	want(t, "Append", j.Append(l...), api.OK)
	e.Data[0], g.Nodes[0], l[0].Term = 'x', 9, 9
	if l[:3][2].Kind != 0 || nodes[:3][2] != 0 {
		t.Error("the spare room was written to")
	}
	if s := state(j); s != "term 0 -1 base 0 0 [0 1]  last 2 1 nodes [0 1 2] 2 | 1 1 abc [] 0 | 1 2  [0 1 2] 0" {
		t.Error(s)
	}
	snap, of := []byte("snap"), []int{3, 4}
	want(t, "Install", j.Install(7, 1, of, snap), api.OK)
	snap[0], of[0] = 'x', 9
	if s := state(j); s != "term 0 -1 base 7 1 [3 4] snap last 7 1 nodes [3 4] 7" {
		t.Error(s)
	}
	more := []byte("more")
	j.Append(data(1, "q"))
	want(t, "Compact", j.Compact(8, more), api.OK)
	more[0] = 'x'
	if b, _ := j.Snapshot(); string(b) != "more" {
		t.Errorf("%q", b)
	}
}

func TestWhatIsAnsweredIsNewMemory(t *testing.T) {
	d := fresh(t)
	j := open(t, d, 0, 1)
	j.Append(data(1, "abc"), data(1, "snap"), group(1, 0, 1, 2))
	j.Compact(1, []byte("snap"))
	was := state(j)
	e, _ := j.At(2)
	e.Data[0] = 'x'
	g, _ := j.At(3)
	g.Nodes[0] = 9
	nodes, _ := j.Nodes()
	nodes[0] = 9
	b, of := j.Snapshot()
	b[0], of[0] = 'x', 9
	_ = append(b[:1], "yyyyyyy"...)
	if s := state(j); s != was {
		t.Error(s)
	}
	j.Cut(3)
	if nodes, _ := j.Nodes(); !slices.Equal(nodes, []int{0, 1}) {
		t.Error(nodes)
	}
	e, _ = j.At(2)
	j.Cut(2)
	j.Append(data(2, "zzzz"))
	if string(e.Data) != "snap" {
		t.Errorf("an answer changed: %q", e.Data)
	}
}

func TestNilJournal(t *testing.T) {
	var j *journal.Journal
	for name, err := range map[string]api.Errno{
		"SetTerm": j.SetTerm(1, 1), "Append": j.Append(), "Cut": j.Cut(1), "Compact": j.Compact(1, nil), "Install": j.Install(1, 1, []int{0}, nil),
	} {
		want(t, name, err, api.ErrArg)
	}
	if e, err := j.At(0); err != api.ErrNone || e.Term != 0 {
		t.Error(e, err)
	}
	if term, ok := j.TermAt(0); term != 0 || ok {
		t.Error(term, ok)
	}
	if s := state(j); s != "term 0 0 base 0 0 []  last 0 0 nodes [] 0" {
		t.Error(s)
	}
}
