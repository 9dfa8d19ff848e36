package index_test

import (
	"bytes"
	"fmt"
	"math"
	"slices"
	"testing"

	"scrubstore/api"
	"scrubstore/disk"
	"scrubstore/index"
	"scrubstore/pair"
)

func free() api.Record { return api.Record{Kind: api.KindFree} }

func mark(key, version int) api.Record {
	return api.Record{Kind: api.KindMark, Key: key, Version: version}
}

func data(key, version int, s string) api.Record {
	return api.Record{Kind: api.KindData, Key: key, Version: version, Data: []byte(s)}
}

func entry(p int, r api.Record) api.Entry { return api.Entry{Record: r, Pair: p} }

// sealed is a block of these bytes, noughts behind them, and a right sum,
// written out here once more so that no test leans on package block.
func sealed(head ...byte) []byte {
	b := append(head, make([]byte, 14-len(head))...)
	n := 3
	for _, x := range b {
		n = (n*131 + int(x) + 1) % 65521
	}
	return append(b, byte(n/256), byte(n%256))
}

// written is the block of r at a place.
func written(r api.Record, at int) []byte {
	head := []byte{byte(r.Kind), byte(at), byte(r.Key), byte(r.Version / 256), byte(r.Version % 256), byte(len(r.Data))}
	return sealed(append(head, r.Data...)...)
}

// telling is a disk whose pairs tell these records, twice; those behind are
// free.
func telling(records ...api.Record) api.Disk {
	var d api.Disk
	for at := range api.MaxBlocks {
		r := free()
		if at/2 < len(records) {
			r = records[at/2]
		}
		d.Blocks = append(d.Blocks, written(r, at))
	}
	return d
}

// six are records of six pairs: of one key there are several, of one version
// too, and neither kind nor data say where they stand.
func six() []api.Record {
	return []api.Record{
		data(7, 2, "x"), mark(7, 2), data(7, 2, "aa"), data(7, 256, ""), mark(7, 1), data(255, 1, "12345678"),
	}
}

// ahead is whether a stands ahead of b in an index.
func ahead(a, b api.Entry) bool {
	switch {
	case a.Record.Key != b.Record.Key:
		return a.Record.Key < b.Record.Key
	case a.Record.Version != b.Record.Version:
		return a.Record.Version < b.Record.Version
	}
	return a.Pair < b.Pair
}

// sorted is the index of these entries, put in their order one by one.
func sorted(entries ...api.Entry) []api.Entry {
	var out []api.Entry
	for _, e := range entries {
		at := 0
		for at < len(out) && ahead(out[at], e) {
			at++
		}
		out = slices.Insert(out, at, e)
	}
	return out
}

func like(a, b api.Entry) bool {
	x, y := a.Record, b.Record
	return a.Pair == b.Pair && x.Kind == y.Kind && x.Key == y.Key && x.Version == y.Version && string(x.Data) == string(y.Data)
}

func same(a, b []api.Entry) bool { return slices.EqualFunc(a, b, like) }

// copyOf is a deep copy, made without package index.
func copyOf(l []api.Entry) []api.Entry {
	var out []api.Entry
	for _, e := range l {
		e.Record.Data = bytes.Clone(e.Record.Data)
		out = append(out, e)
	}
	return out
}

// roomy is l with spare room behind every list, and something in it.
func roomy(l []api.Entry) []api.Entry {
	var out []api.Entry
	for _, e := range l {
		e.Record.Data = append(bytes.Clone(e.Record.Data), "spare"...)[:len(e.Record.Data)]
		out = append(out, e)
	}
	for p := range 9 {
		out = append(out, entry(p, data(7, 2, "spare")))
	}
	return out[:len(l)]
}

// reached is l with its spare room, and that behind its data.
func reached(l []api.Entry) []api.Entry {
	var out []api.Entry
	for _, e := range l[:cap(l)] {
		e.Record.Data = e.Record.Data[:cap(e.Record.Data)]
		out = append(out, e)
	}
	return copyOf(out)
}

// wipe turns all that can be reached from l, spare room too.
func wipe(l []api.Entry) {
	l = l[:cap(l)]
	for i := range l {
		wipeBytes(l[i].Record.Data)
		l[i] = entry(-7, free())
	}
}

func wipeBytes(b []byte) {
	b = b[:cap(b)]
	for n := range b {
		b[n] ^= 255
	}
}

// indexes are those of all choices of the six pairs, and some of greater pairs.
func indexes() [][]api.Entry {
	var out [][]api.Entry
	for bits := range 1 << 6 {
		var l []api.Entry
		for p, r := range six() {
			if bits>>p&1 == 1 {
				l = append(l, entry(p, r))
			}
		}
		out = append(out, sorted(l...))
	}
	return append(out,
		[]api.Entry{},
		sorted(entry(math.MaxInt, mark(1, 1)), entry(0, data(255, 60000, "12345678"))),
		sorted(entry(1<<40, mark(1, 60000)), entry(1<<40+1, mark(1, 60000)), entry(1, data(2, 1, ""))),
	)
}

// taken is whether a pair has an entry in l.
func taken(l []api.Entry, p int) bool {
	for _, e := range l {
		if e.Pair == p {
			return true
		}
	}
	return false
}

// somePairs are those that indexes have, those around them, and wrong ones.
func somePairs() []int {
	return []int{0, 1, 2, 3, 4, 5, 6, 7, 12, 1 << 40, 1<<40 + 1, 1<<40 + 2, math.MaxInt, math.MaxInt - 1, -1, -2, math.MinInt}
}

func TestScanOfANewDisk(t *testing.T) {
	if l := index.Scan(disk.New()); len(l) != 0 {
		t.Errorf("it is %v", l)
	}
}

func TestScanKnownDisk(t *testing.T) {
	l := index.Scan(telling(data(9, 1, ""), free(), data(7, 5, ""), mark(7, 6), data(7, 2, "x")))
	want := []api.Entry{entry(4, data(7, 2, "x")), entry(2, data(7, 5, "")), entry(3, mark(7, 6)), entry(0, data(9, 1, ""))}
	if !same(l, want) {
		t.Errorf("it is %v, not %v", l, want)
	}
}

// Of what is alike in key and version the pair decides, whatever else there is.
func TestScanOfOneVersionInAllPairs(t *testing.T) {
	l := index.Scan(telling(data(7, 2, "z"), mark(7, 2), data(7, 2, "a"), data(7, 2, "z"), data(7, 2, ""), mark(7, 2)))
	if len(l) != api.MaxPairs {
		t.Fatalf("it is %v", l)
	}
	for p, e := range l {
		if e.Pair != p {
			t.Errorf("entry %d is %v", p, e)
		}
	}
}

// Versions are of two bytes, and held against each other as numbers.
func TestScanOrdersByNumbers(t *testing.T) {
	l := index.Scan(telling(mark(10, 1), mark(9, 60000), mark(9, 256), mark(9, 255), mark(255, 1), mark(1, 59999)))
	want := []api.Entry{entry(5, mark(1, 59999)), entry(3, mark(9, 255)), entry(2, mark(9, 256)), entry(1, mark(9, 60000)), entry(0, mark(10, 1)), entry(4, mark(255, 1))}
	if !same(l, want) {
		t.Errorf("it is %v, not %v", l, want)
	}
}

// turns calls do with all orders of the records.
func turns(records []api.Record, n int, do func()) {
	if n == len(records) {
		do()
		return
	}
	for i := n; i < len(records); i++ {
		records[n], records[i] = records[i], records[n]
		turns(records, n+1, do)
		records[n], records[i] = records[i], records[n]
	}
}

func TestScanOfAllOrders(t *testing.T) {
	records := append(six()[:5], free())
	turns(records, 0, func() {
		var want []api.Entry
		for p, r := range records {
			if r.Kind != api.KindFree {
				want = append(want, entry(p, r))
			}
		}
		want = sorted(want...)
		if l := index.Scan(telling(records...)); !same(l, want) {
			t.Errorf("of %v it is %v, not %v", records, l, want)
		}
	})
}

type pairState struct {
	name   string
	blocks func(at int) ([]byte, []byte)
	tells  api.Record
}

// pairStates has every way in which a pair may tell a record, or none.
func pairStates() []pairState {
	r, q := data(7, 3, "ab"), mark(8, 4)
	rot := make([]byte, api.BlockSize)
	both := func(a, b api.Record) func(int) ([]byte, []byte) {
		return func(at int) ([]byte, []byte) { return written(a, at), written(b, at+1) }
	}
	return []pairState{
		{"free", both(free(), free()), free()},
		{"both", both(r, r), r},
		{"the first one, and a free one", both(r, free()), r},
		{"a free one, and the second one", both(free(), r), r},
		{"the first one, and a spoilt one", func(at int) ([]byte, []byte) { return written(r, at), rot }, r},
		{"a spoilt one, and the second one", func(at int) ([]byte, []byte) { return rot, written(r, at+1) }, r},
		{"a spoilt one, and a free one", func(at int) ([]byte, []byte) { return rot, written(free(), at+1) }, free()},
		{"lost", func(int) ([]byte, []byte) { return rot, rot }, free()},
		{"of other places", func(at int) ([]byte, []byte) { return written(r, at+1), written(r, at) }, free()},
		{"a clash", both(r, q), r},
		{"a clash the other way", both(q, r), q},
	}
}

func TestScanOfEveryState(t *testing.T) {
	for _, s := range pairStates() {
		for p := range api.MaxPairs {
			for _, late := range []bool{false, true} {
				d := telling(six()...)
				first, second := s.blocks(2 * p)
				if late {
					d.Late = []api.Write{{At: 2*p + 1, Data: second}, {At: 2 * p, Data: first}}
				} else {
					d.Blocks[2*p], d.Blocks[2*p+1] = first, second
				}
				var want []api.Entry
				for other, r := range six() {
					if other != p {
						want = append(want, entry(other, r))
					}
				}
				if s.tells.Kind != api.KindFree {
					want = append(want, entry(p, s.tells))
				}
				want = sorted(want...)
				if l := index.Scan(d); !same(l, want) {
					t.Errorf("pair %d is %s, late: %t: it is %v, not %v", p, s.name, late, l, want)
				}
			}
		}
	}
}

func diskCopy(d api.Disk) api.Disk {
	var out api.Disk
	for _, b := range d.Blocks {
		out.Blocks = append(out.Blocks, bytes.Clone(b))
	}
	for _, w := range d.Late {
		out.Late = append(out.Late, api.Write{At: w.At, Data: bytes.Clone(w.Data)})
	}
	return out
}

func wipeDisk(d api.Disk) {
	for at, b := range d.Blocks {
		wipeBytes(b)
		d.Blocks[at] = nil
	}
	for i := range d.Late {
		wipeBytes(d.Late[i].Data)
		d.Late[i] = api.Write{At: -7}
	}
}

func TestScanAnswersNewMemory(t *testing.T) {
	d := telling(six()...)
	d.Late = []api.Write{{At: 0, Data: written(data(9, 9, "late"), 0)}, {At: 1, Data: written(data(9, 9, "late"), 1)}}
	kept, want := fmt.Sprint(d), copyOf(index.Scan(diskCopy(d)))
	l := index.Scan(d)
	wipe(l)
	if fmt.Sprint(d) != kept {
		t.Errorf("the disk changed")
	}
	l = index.Scan(d)
	wipeDisk(d)
	if !same(l, want) {
		t.Errorf("the index changed with the disk: %v", l)
	}
}

// Neither late writes nor blocks that stand in spare room are looked at.
func TestScanLeavesSpareRoom(t *testing.T) {
	d := telling(mark(1, 1))
	room := []api.Write{{At: 2, Data: written(mark(2, 2), 2)}, {At: 0, Data: make([]byte, 16)}}
	d.Late = room[:0]
	if l := index.Scan(d); !same(l, []api.Entry{entry(0, mark(1, 1))}) {
		t.Errorf("it is %v", l)
	}
}

// The document says nothing of what is no disk; a call must still end without
// a panic.
func TestScanOfWhatIsNoDisk(t *testing.T) {
	for i, d := range []api.Disk{
		{},
		{Late: []api.Write{{At: 0, Data: written(mark(1, 1), 0)}}},
		{Blocks: make([][]byte, 1), Late: []api.Write{{}, {At: -1}, {At: 12, Data: []byte{1}}}},
	} {
		if l := index.Scan(d); len(l) != 0 {
			t.Errorf("%d: it is %v", i, l)
		}
	}
}

func TestOwnIsACopy(t *testing.T) {
	for _, l := range indexes() {
		if got := index.Own(l); !same(got, l) {
			t.Errorf("of %v it is %v", l, got)
		}
	}
}

func TestFreeKnownIndexes(t *testing.T) {
	of := func(pairs ...int) []api.Entry {
		var l []api.Entry
		for i, p := range pairs {
			l = append(l, entry(p, mark(i+1, 1)))
		}
		return l
	}
	for _, c := range []struct {
		l           []api.Entry
		pairs, want int
	}{
		{nil, 6, 0}, {nil, 1, 0}, {nil, 0, -1}, {nil, -1, -1}, {nil, math.MinInt, -1}, {nil, math.MaxInt, 0},
		{of(0), 6, 1}, {of(0), 1, -1}, {of(0), 0, -1}, {of(0), 2, 1},
		{of(1), 6, 0}, {of(1), 1, 0},
		{of(2, 0), 6, 1}, {of(2, 0), 1, -1},
		{of(5, 3, 1, 0, 2), 6, 4}, {of(5, 3, 1, 0, 2), 4, -1},
		{of(5, 4, 3, 2, 1, 0), 6, -1}, {of(5, 4, 3, 2, 1, 0), 7, 6}, {of(5, 4, 3, 2, 1, 0), math.MaxInt, 6}, {of(5, 4, 3, 2, 1, 0), math.MinInt, -1},
		{of(6, 7), 6, 0}, {of(math.MaxInt, 0), math.MaxInt, 1}, {of(1<<62, 1, 0), 2, -1},
	} {
		if got := index.Free(c.l, c.pairs); got != c.want {
			t.Errorf("of %v, and %d pairs, it is %d, not %d", c.l, c.pairs, got, c.want)
		}
	}
}

func TestFreeOfEveryIndex(t *testing.T) {
	for _, l := range indexes() {
		for pairs := -2; pairs <= 9; pairs++ {
			want := -1
			for p := pairs - 1; p >= 0; p-- {
				if !taken(l, p) {
					want = p
				}
			}
			if got := index.Free(l, pairs); got != want {
				t.Errorf("of %v, and %d pairs, it is %d, not %d", l, pairs, got, want)
			}
		}
	}
}

// An index may be of more pairs than a disk has.
func TestFreeOfManyPairs(t *testing.T) {
	var l []api.Entry
	for p := range 100000 {
		l = append(l, entry(99999-p, mark(1+p/60000, 1+p%60000)))
	}
	for _, c := range []struct{ pairs, want int }{{100000, -1}, {100001, 100000}, {math.MaxInt, 100000}, {6, -1}} {
		if got := index.Free(l, c.pairs); got != c.want {
			t.Errorf("of %d pairs it is %d, not %d", c.pairs, got, c.want)
		}
	}
	if got := index.Free(l[1:], math.MaxInt); got != 99999 {
		t.Errorf("without the last pair it is %d", got)
	}
}

func TestAddKnownEntries(t *testing.T) {
	l := []api.Entry{entry(4, data(7, 2, "x")), entry(2, data(7, 5, "")), entry(0, data(9, 1, ""))}
	for _, c := range []struct {
		e  api.Entry
		at int
	}{
		{entry(1, mark(6, 9)), 0}, {entry(1, mark(7, 1)), 0}, {entry(1, mark(7, 2)), 0},
		{entry(5, mark(7, 2)), 1}, {entry(1, data(7, 3, "abc")), 1}, {entry(1, mark(7, 5)), 1},
		{entry(3, mark(7, 5)), 2}, {entry(1, mark(7, 60000)), 2}, {entry(1, mark(8, 1)), 2},
		{entry(1, data(9, 1, "")), 3}, {entry(math.MaxInt, mark(9, 2)), 3}, {entry(1, mark(255, 1)), 3},
	} {
		want := slices.Insert(copyOf(l), c.at, c.e)
		if got := index.Add(l, c.e); !same(got, want) {
			t.Errorf("with %v it is %v, not %v", c.e, got, want)
		}
	}
}

// someRecords are those of the six pairs, and others that stand ahead of them,
// among them, and behind.
func someRecords() []api.Record {
	return append(six(), mark(1, 1), data(7, 3, "ab"), mark(7, 60000), data(8, 1, ""), data(255, 60000, "12345678"))
}

func TestAddToEveryIndex(t *testing.T) {
	for _, l := range indexes() {
		for _, r := range someRecords() {
			for _, p := range somePairs() {
				if p < 0 || taken(l, p) {
					continue
				}
				want := sorted(append(copyOf(l), entry(p, r))...)
				if got := index.Add(l, entry(p, r)); !same(got, want) {
					t.Errorf("%v with %v of pair %d is %v, not %v", l, r, p, got, want)
				}
			}
		}
	}
}

// The document says nothing of a pair that has an entry; the index is as it
// was, and so an index still.
func TestAddOfAPairThatIsTaken(t *testing.T) {
	for _, l := range indexes() {
		for _, e := range l {
			for _, r := range someRecords() {
				if got := index.Add(l, entry(e.Pair, r)); !same(got, l) {
					t.Errorf("%v with %v of pair %d is %v", l, r, e.Pair, got)
				}
			}
		}
	}
}

// Entries that no index has are held against the others likewise, and there is
// no panic.
func TestAddOfWrongEntries(t *testing.T) {
	l := []api.Entry{entry(4, data(7, 2, "x")), entry(2, data(7, 5, ""))}
	for _, e := range []api.Entry{
		{}, entry(-1, mark(7, 3)), entry(math.MinInt, mark(7, 2)), entry(1, free()), entry(1, mark(math.MinInt, math.MaxInt)),
		entry(1, mark(math.MaxInt, math.MinInt)), entry(1, mark(7, math.MinInt)), entry(1, data(7, 3, "more than eight bytes")),
	} {
		want := sorted(append(copyOf(l), e)...)
		if got := index.Add(l, e); !same(got, want) {
			t.Errorf("with %v it is %v, not %v", e, got, want)
		}
	}
}

func TestAddOwnsItsEntry(t *testing.T) {
	room := []byte("abcdefgh")
	e := entry(1, data(7, 3, ""))
	e.Record.Data = room[:2]
	for _, l := range indexes() {
		if taken(l, 1) {
			continue
		}
		want := sorted(append(copyOf(l), entry(1, data(7, 3, "ab")))...)
		got := index.Add(l, e)
		clear(room)
		if !same(got, want) {
			t.Errorf("the index changed with the entry: %v", got)
		}
		copy(room, "abcdefgh")
		wipe(got)
		if string(room) != "abcdefgh" {
			t.Fatalf("the entry changed with the index: %q", room)
		}
	}
}

func TestDropOfEveryPair(t *testing.T) {
	for _, l := range indexes() {
		for _, p := range somePairs() {
			var want []api.Entry
			for _, e := range l {
				if e.Pair != p {
					want = append(want, e)
				}
			}
			if got := index.Drop(l, p); !same(got, want) {
				t.Errorf("%v without pair %d is %v, not %v", l, p, got, want)
			}
		}
	}
}

// Added, and taken, it is as it was.
func TestAddAndThenDrop(t *testing.T) {
	for _, l := range indexes() {
		for _, p := range somePairs() {
			if taken(l, p) {
				continue
			}
			for _, r := range someRecords() {
				if got := index.Drop(index.Add(l, entry(p, r)), p); !same(got, l) {
					t.Errorf("%v with and without %v of pair %d is %v", l, r, p, got)
				}
			}
		}
		for _, e := range l {
			if got := index.Add(index.Drop(l, e.Pair), e); !same(got, l) {
				t.Errorf("%v without and with %v is %v", l, e, got)
			}
		}
	}
}

// An index that is made entry by entry is that of the disk.
func TestAddWhatScanFinds(t *testing.T) {
	d := disk.New()
	var l []api.Entry
	for _, r := range six() {
		p := index.Free(l, api.MaxPairs)
		d, _ = pair.Put(d, p, r)
		l = index.Add(l, entry(p, r))
		for _, x := range []api.Disk{d, disk.Flush(d)} {
			if got := index.Scan(x); !same(got, l) {
				t.Errorf("the disk's is %v, not %v", got, l)
			}
		}
	}
	for _, p := range []int{3, 0, 5, 1, 4, 2} {
		d, _ = pair.Put(d, p, free())
		l = index.Drop(l, p)
		if got := index.Scan(d); !same(got, l) {
			t.Errorf("without pair %d the disk's is %v, not %v", p, got, l)
		}
	}
}

func TestLastKnownKeys(t *testing.T) {
	l := []api.Entry{
		entry(4, data(7, 2, "x")), entry(2, data(7, 5, "")), entry(3, mark(7, 6)),
		entry(0, data(9, 1, "a")), entry(1, mark(9, 1)), entry(5, data(9, 1, "b")), entry(9, data(255, 60000, "12345678")),
	}
	for _, c := range []struct {
		key  int
		want api.Entry
		ok   bool
	}{
		{7, entry(3, mark(7, 6)), true}, {9, entry(5, data(9, 1, "b")), true}, {255, entry(9, data(255, 60000, "12345678")), true},
		{6, api.Entry{}, false}, {8, api.Entry{}, false}, {10, api.Entry{}, false}, {254, api.Entry{}, false},
		{0, api.Entry{}, false}, {-7, api.Entry{}, false}, {256, api.Entry{}, false}, {263, api.Entry{}, false},
		{math.MinInt, api.Entry{}, false}, {math.MaxInt, api.Entry{}, false},
	} {
		if got, ok := index.Last(l, c.key); ok != c.ok || !like(got, c.want) {
			t.Errorf("of key %d it is %v, %t, not %v, %t", c.key, got, ok, c.want, c.ok)
		}
	}
}

func TestLastOfEveryIndex(t *testing.T) {
	for _, l := range indexes() {
		for key := -1; key <= api.MaxKey+1; key++ {
			want, found := api.Entry{}, false
			for _, e := range l {
				if e.Record.Key == key && (!found || ahead(want, e)) {
					want, found = e, true
				}
			}
			if got, ok := index.Last(l, key); ok != found || !like(got, want) {
				t.Errorf("%v: of key %d it is %v, %t, not %v, %t", l, key, got, ok, want, found)
			}
		}
	}
}

func TestFindKnownVersions(t *testing.T) {
	l := []api.Entry{
		entry(4, data(7, 2, "x")), entry(2, data(7, 5, "")), entry(3, mark(7, 6)),
		entry(0, data(9, 1, "a")), entry(1, mark(9, 1)), entry(5, data(9, 1, "b")), entry(9, data(255, 60000, "12345678")),
	}
	for _, c := range []struct {
		key, version int
		want         api.Entry
		ok           bool
	}{
		{7, 2, entry(4, data(7, 2, "x")), true}, {7, 5, entry(2, data(7, 5, "")), true}, {7, 6, entry(3, mark(7, 6)), true},
		{9, 1, entry(0, data(9, 1, "a")), true}, {255, 60000, entry(9, data(255, 60000, "12345678")), true},
		{7, 1, api.Entry{}, false}, {7, 3, api.Entry{}, false}, {7, 7, api.Entry{}, false}, {9, 2, api.Entry{}, false},
		{8, 2, api.Entry{}, false}, {2, 7, api.Entry{}, false}, {7, 0, api.Entry{}, false}, {0, 2, api.Entry{}, false},
		{-7, -2, api.Entry{}, false}, {256, 60001, api.Entry{}, false}, {0, 0, api.Entry{}, false},
		{7, math.MinInt, api.Entry{}, false}, {math.MaxInt, 2, api.Entry{}, false},
	} {
		if got, ok := index.Find(l, c.key, c.version); ok != c.ok || !like(got, c.want) {
			t.Errorf("of key %d, version %d it is %v, %t, not %v, %t", c.key, c.version, got, ok, c.want, c.ok)
		}
	}
}

func TestFindInEveryIndex(t *testing.T) {
	for _, l := range indexes() {
		for _, key := range []int{-1, 0, 1, 2, 6, 7, 8, 255, 256} {
			for _, version := range []int{-1, 0, 1, 2, 3, 255, 256, 257, 60000, 60001} {
				want, found := api.Entry{}, false
				for _, e := range l {
					if e.Record.Key == key && e.Record.Version == version && (!found || ahead(e, want)) {
						want, found = e, true
					}
				}
				if got, ok := index.Find(l, key, version); ok != found || !like(got, want) {
					t.Errorf("%v: of key %d, version %d it is %v, %t, not %v, %t", l, key, version, got, ok, want, found)
				}
			}
		}
	}
}

type call struct {
	name string
	do   func([]api.Entry) []api.Entry
}

// calls are all that take an index; what they answer is told as a list.
func calls() []call {
	one := func(e api.Entry, ok bool) []api.Entry {
		if !ok {
			return nil
		}
		return []api.Entry{e}
	}
	return []call{
		{"Own", index.Own},
		{"Free", func(l []api.Entry) []api.Entry { return []api.Entry{entry(index.Free(l, 6), free())} }},
		{"Free of many", func(l []api.Entry) []api.Entry { return []api.Entry{entry(index.Free(l, math.MaxInt), free())} }},
		{"Add ahead", func(l []api.Entry) []api.Entry { return index.Add(l, entry(8, mark(1, 1))) }},
		{"Add among", func(l []api.Entry) []api.Entry { return index.Add(l, entry(8, data(7, 2, "ab"))) }},
		{"Add behind", func(l []api.Entry) []api.Entry { return index.Add(l, entry(8, mark(255, 60000))) }},
		{"Add where a pair is taken", func(l []api.Entry) []api.Entry { return index.Add(l, entry(2, mark(1, 1))) }},
		{"Drop", func(l []api.Entry) []api.Entry { return index.Drop(l, 2) }},
		{"Drop of none", func(l []api.Entry) []api.Entry { return index.Drop(l, 8) }},
		{"Last", func(l []api.Entry) []api.Entry { return one(index.Last(l, 255)) }},
		{"Last of several", func(l []api.Entry) []api.Entry { return one(index.Last(l, 7)) }},
		{"Find", func(l []api.Entry) []api.Entry { return one(index.Find(l, 255, 1)) }},
		{"Find of several", func(l []api.Entry) []api.Entry { return one(index.Find(l, 7, 2)) }},
	}
}

func TestNoCallChangesOrKeepsTheIndexItIsHanded(t *testing.T) {
	for _, c := range calls() {
		for _, plain := range indexes() {
			want := copyOf(c.do(plain))
			given := roomy(plain)
			room := reached(given)
			got := c.do(given)
			if !same(got, want) {
				t.Errorf("%s: of %v with spare room behind it is %v, not %v", c.name, plain, got, want)
			}
			if !same(reached(given), room) {
				t.Errorf("%s: what was handed in, %v, is changed", c.name, plain)
			}
			wipe(got)
			if !same(reached(given), room) {
				t.Errorf("%s: what was handed in, %v, changed with the answer", c.name, plain)
			}
			got = c.do(given)
			wipe(given)
			if !same(got, want) {
				t.Errorf("%s: the answer of %v changed with what was handed in", c.name, plain)
			}
		}
	}
}

func TestListsOfAnAnswerShareNoMemory(t *testing.T) {
	for _, c := range calls() {
		for _, l := range indexes() {
			got := c.do(l)
			for i, e := range got {
				want := copyOf(got)
				wipeBytes(e.Record.Data)
				want[i].Record.Data = bytes.Clone(e.Record.Data)
				if !same(got, want) {
					t.Errorf("%s: of %v entry %d shares memory with another one", c.name, l, i)
				}
			}
		}
	}
}

func TestNilAndEmptyAreTheSame(t *testing.T) {
	for _, c := range calls() {
		if a, b := c.do(nil), c.do([]api.Entry{}); !same(a, b) {
			t.Errorf("%s: of nil it is %v, of an empty index %v", c.name, a, b)
		}
	}
}

// The document says nothing of what is no index; a call must still end without
// a panic, and leave what it is handed.
func TestWhatIsNoIndex(t *testing.T) {
	for i, l := range [][]api.Entry{
		{{}},
		{entry(-1, mark(7, 2)), entry(math.MinInt, mark(7, 2)), entry(math.MaxInt, mark(7, 2))},
		{entry(2, mark(255, 1)), entry(0, mark(7, 2)), entry(1, mark(1, 1))},
		{entry(0, mark(7, 2)), entry(0, mark(7, 2)), entry(0, data(7, 1, "more than eight bytes"))},
		{entry(0, free()), entry(1, mark(math.MinInt, math.MaxInt)), entry(2, api.Record{Kind: -1})},
	} {
		kept := copyOf(l)
		for _, c := range calls() {
			c.do(l)
			if !same(l, kept) {
				t.Errorf("%d: %s changed what was handed in", i, c.name)
			}
		}
	}
	if p := index.Free([]api.Entry{entry(-1, mark(7, 2)), entry(0, mark(7, 3))}, 6); p != 1 {
		t.Errorf("of a pair below 0, and pair 0, the first free one is %d", p)
	}
}
