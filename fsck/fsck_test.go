package fsck_test

import (
	"bytes"
	"fmt"
	"math"
	"slices"
	"testing"

	"scrubstore/api"
	"scrubstore/disk"
	"scrubstore/fsck"
	"scrubstore/index"
	"scrubstore/pair"
	"scrubstore/scrub"
	"scrubstore/store"
)

func free() api.Record { return api.Record{Kind: api.KindFree} }

func mark(key, version int) api.Record {
	return api.Record{Kind: api.KindMark, Key: key, Version: version}
}

func data(key, version int, s string) api.Record {
	return api.Record{Kind: api.KindData, Key: key, Version: version, Data: []byte(s)}
}

func put(key int, s string) api.Deed {
	return api.Deed{Kind: api.DeedPut, Key: key, Data: []byte(s)}
}

func del(key int) api.Deed { return api.Deed{Kind: api.DeedDelete, Key: key} }

func purge(key, n int) api.Deed { return api.Deed{Kind: api.DeedPurge, Key: key, N: n} }

// sealed is b with its sum behind, written out here once more so that no test
// leans on package sum.
func sealed(b []byte) []byte {
	n := 3
	for _, x := range b {
		n = (n*131 + int(x) + 1) % 65521
	}
	return append(bytes.Clone(b), byte(n/256), byte(n%256))
}

// written is the block of r at a place.
func written(r api.Record, at int) []byte {
	b := []byte{byte(r.Kind), byte(at), byte(r.Key), byte(r.Version / 256), byte(r.Version % 256), byte(len(r.Data))}
	b = append(b, r.Data...)
	return sealed(append(b, make([]byte, 14-len(b))...))
}

// turned is the block of r at a place, one byte of which has rotted.
func turned(r api.Record, at int) []byte {
	b := written(r, at)
	b[at] ^= 129
	return b
}

// laid is a pair as it lies on a disk, how it is, and what it tells, by the
// words of chapter 4.
type laid struct {
	blocks [2][]byte
	how    int
	told   api.Record
}

// whole is pair p when both of its blocks tell r.
func whole(r api.Record, p int) laid {
	out := laid{told: r, how: api.PairBoth}
	if r.Kind == api.KindFree {
		out.how = api.PairFree
	}
	for n := range out.blocks {
		out.blocks[n] = written(r, 2*p+n)
	}
	return out
}

// shelf is what six pairs tell, if they tell.
type shelf [6]api.Record

// shelves have versions once, twice, and more often: of the same key, and of
// others, with the same data, and with other.
func shelves() []shelf {
	return []shelf{
		{data(7, 3, "ab"), mark(7, 4), data(255, 60000, "12345678"), data(1, 300, ""), data(7, 5, "z"), mark(1, 1)},
		{data(7, 3, "ab"), mark(7, 259), data(8, 3, "ab"), data(7, 3, "ab"), data(1, 259, ""), mark(9, 3)},
		{mark(1, 60000), mark(1, 60000), mark(1, 60000), mark(1, 60000), mark(1, 60000), mark(1, 60000)},
		{data(5, 1, ""), data(4, 2, "x"), mark(3, 9), data(2, 2, "x"), data(1, 1, "12345678"), data(255, 9, "")},
	}
}

// forms are all ways in which pair p may lie whose record is r. The second
// block of a clash is of a version that r's shelf may have too.
func forms(p int, r, q api.Record) []laid {
	a, b := 2*p, 2*p+1
	f := free()
	noughts := make([]byte, 16)
	noKind := sealed([]byte{4, byte(a), 7, 0, 1, 0, 0, 0, 0, 0, 0, 0, 0, 0})
	behind := sealed([]byte{2, byte(b), 7, 0, 1, 1, 'a', 0, 0, 'b', 0, 0, 0, 0})
	return []laid{
		whole(f, p),
		whole(r, p),
		{[2][]byte{written(r, a), written(f, b)}, api.PairOne, r},
		{[2][]byte{written(f, a), written(r, b)}, api.PairOne, r},
		{[2][]byte{written(r, a), turned(r, b)}, api.PairOne, r},
		{[2][]byte{turned(r, a), written(r, b)}, api.PairOne, r},
		{[2][]byte{noKind, written(r, b)}, api.PairOne, r},
		{[2][]byte{written(f, a), turned(f, b)}, api.PairEmpty, f},
		{[2][]byte{turned(r, a), written(f, b)}, api.PairEmpty, f},
		{[2][]byte{turned(r, a), turned(r, b)}, api.PairLost, f},
		{[2][]byte{noughts, behind}, api.PairLost, f},
		{[2][]byte{written(r, b), written(r, a)}, api.PairLost, f}, // of other places
		{[2][]byte{written(r, a), written(q, b)}, api.PairClash, r},
	}
}

// lies are choices of how six pairs lie: each pair lies in every way, and any
// two of them in all ways that two can.
func lies(l shelf) [][]laid {
	var out [][]laid
	ways := len(forms(0, l[0], l[1]))
	for first := range ways {
		for step := range ways {
			var pairs []laid
			for p, r := range l {
				q := l[(p+1)%6]
				q.Key = 250 // unlike r, if they are alike
				pairs = append(pairs, forms(p, r, q)[(first+step*p)%ways])
			}
			out = append(out, pairs)
		}
	}
	return out
}

// laidOut is the disk whose pairs lie so.
func laidOut(pairs []laid) api.Disk {
	var d api.Disk
	for _, l := range pairs {
		d.Blocks = append(d.Blocks, bytes.Clone(l.blocks[0]), bytes.Clone(l.blocks[1]))
	}
	return d
}

// sample is a disk, how its pairs lie with late writes, and without them.
type sample struct {
	d         api.Disk
	got, lies []laid
}

// samples are disks of every lie, and such that have late writes too, of one
// block of each pair or of both, some of them written over by others.
func samples() []sample {
	var out []sample
	for _, l := range shelves() {
		all := lies(l)
		for i, pairs := range all {
			out = append(out, sample{laidOut(pairs), pairs, pairs}, lateSample(i, pairs, all[(i*7+3)%len(all)]))
		}
	}
	return out
}

// lateSample is a disk whose pairs lie as those above do once its late writes
// have come, and otherwise as those below, more or less.
func lateSample(i int, above, below []laid) sample {
	got, lies := slices.Clone(above), slices.Clone(below)
	var late []api.Write
	for p, l := range above {
		first, second := api.Write{At: 2 * p, Data: l.blocks[0]}, api.Write{At: 2*p + 1, Data: l.blocks[1]}
		switch (p + i) % 4 {
		case 0:
			late = append(late, first, second)
		case 1:
			late = append(late, api.Write{At: 2*p + 1, Data: written(mark(3, 3), 2*p+1)}, first, second)
		case 2:
			late = append(late, second)
			lies[p] = laid{[2][]byte{l.blocks[0], written(free(), 2*p+1)}, 0, free()}
			lies[p].how, lies[p].told = firstAlone(l.blocks[0], 2*p)
		default:
			got[p] = below[p]
		}
	}
	d := laidOut(lies)
	d.Late = late
	return sample{copyOf(d), got, lies}
}

// firstAlone is how a pair is the second block of which is free, and what it
// tells; only blocks of forms are asked for.
func firstAlone(b []byte, at int) (int, api.Record) {
	switch {
	case !bytes.Equal(sealed(b[:14]), b) || b[0] < 1 || b[0] > 3 || int(b[1]) != at:
		return api.PairEmpty, free()
	case b[0] == 1:
		return api.PairFree, free()
	}
	r := api.Record{Kind: int(b[0]), Key: int(b[2]), Version: int(b[3])*256 + int(b[4]), Data: b[6 : 6+b[5]]}
	return api.PairOne, r
}

// twice are the pairs whose version a pair ahead tells too.
func twice(pairs []laid) []int {
	var out []int
	for p, l := range pairs {
		for _, x := range pairs[:p] {
			if l.told.Kind != api.KindFree && x.told.Kind != api.KindFree && l.told.Version == x.told.Version {
				out = append(out, p)
				break
			}
		}
	}
	return out
}

// inOrder are these pairs when all of them were put in order.
func inOrder(pairs []laid) []laid {
	var out []laid
	for p, l := range pairs {
		out = append(out, whole(l.told, p))
	}
	for _, p := range twice(pairs) {
		out[p] = whole(free(), p)
	}
	return out
}

// counted is the report of how these pairs lie.
func counted(pairs []laid) api.Report {
	var r api.Report
	for _, l := range pairs {
		r.Count[l.how]++
	}
	return r
}

// indexed is the index of these pairs.
func indexed(pairs []laid) []api.Entry {
	var l []api.Entry
	for p, x := range pairs {
		if x.told.Kind == api.KindFree {
			continue
		}
		e := api.Entry{Record: x.told, Pair: p}
		at := 0
		for at < len(l) && ahead(l[at], e) {
			at++
		}
		l = slices.Insert(l, at, e)
	}
	return ownEntries(l)
}

// ahead is whether a stands ahead of b in an index.
func ahead(a, b api.Entry) bool {
	switch {
	case a.Record.Key != b.Record.Key:
		return a.Record.Key < b.Record.Key
	case a.Record.Version != b.Record.Version:
		return a.Record.Version < b.Record.Version
	}
	return a.Pair < b.Pair
}

func ownEntries(l []api.Entry) []api.Entry {
	out := slices.Clone(l)
	for i := range out {
		out[i].Record.Data = bytes.Clone(l[i].Record.Data)
	}
	return out
}

// copyOf is a deep copy, made without package disk.
func copyOf(d api.Disk) api.Disk {
	var out api.Disk
	for _, b := range d.Blocks {
		out.Blocks = append(out.Blocks, bytes.Clone(b))
	}
	for _, w := range d.Late {
		out.Late = append(out.Late, api.Write{At: w.At, Data: bytes.Clone(w.Data)})
	}
	return out
}

// same is whether a and b are alike in all that they have; nil and empty lists
// are told alike.
func same(a, b any) bool { return fmt.Sprint(a) == fmt.Sprint(b) }

func TestTwiceOfEveryDisk(t *testing.T) {
	for _, c := range samples() {
		if got, want := fsck.Twice(c.d), twice(c.got); !same(got, want) {
			t.Errorf("Twice(%v) is %v, not %v", c.d, got, want)
		}
	}
}

func TestCleanOfEveryDisk(t *testing.T) {
	for _, c := range samples() {
		want, wantCount, wantTwice := laidOut(inOrder(c.lies)), counted(c.lies), twice(c.lies)
		got, r, were := fsck.Clean(c.d)
		if !same(got, want) || r != wantCount || !same(were, wantTwice) {
			t.Errorf("Clean(%v) is %v, %v, %v, not %v, %v, %v", c.d, got, r, were, want, wantCount, wantTwice)
		}
	}
}

func TestSoundOfEveryDisk(t *testing.T) {
	sound := 0
	for _, c := range samples() {
		want := same(laidOut(inOrder(c.lies)), laidOut(c.lies))
		if want {
			sound++
		}
		if got := fsck.Sound(c.d); got != want {
			t.Errorf("Sound(%v) is %v", c.d, got)
		}
	}
	if sound == 0 {
		t.Error("none of the samples is sound")
	}
}

func TestFitsOfEveryDisk(t *testing.T) {
	for _, c := range samples() {
		l := indexed(c.got)
		if !fsck.Fits(l, c.d) {
			t.Errorf("Fits(%v, %v) is false", l, c.d)
		}
		without := indexed(c.lies)
		if got, want := fsck.Fits(without, c.d), same(without, l); got != want {
			t.Errorf("Fits(%v, %v) is %v", without, c.d, got)
		}
	}
}

// In order it is in order: there is nothing left to do.
func TestWhatIsCleanIsSound(t *testing.T) {
	for _, c := range samples() {
		once, _, _ := fsck.Clean(c.d)
		if !fsck.Sound(once) || len(fsck.Twice(once)) != 0 || len(once.Late) != 0 {
			t.Errorf("Clean(%v) is %v, which is not in order", c.d, once)
		}
		again, r, were := fsck.Clean(once)
		if !same(again, once) || len(were) != 0 || r.Count[api.PairFree]+r.Count[api.PairBoth] != 6 {
			t.Errorf("Clean(%v) is %v, and of that it is %v, %v, %v", c.d, once, again, r, were)
		}
	}
}

// Nothing that is told is lost: every version is there, told by the first pair
// that told it.
func TestNothingThatIsToldIsLost(t *testing.T) {
	for _, c := range samples() {
		var want []laid
		for p, l := range c.lies {
			if slices.Contains(twice(c.lies), p) {
				l.told = free()
			}
			want = append(want, l)
		}
		got, _, _ := fsck.Clean(c.d)
		if l := indexed(want); !same(store.Mount(got).Index, l) || !fsck.Fits(l, got) {
			t.Errorf("of %v is told %v, and behind Clean %v", c.d, l, store.Mount(got).Index)
		}
	}
}

func TestNewDisk(t *testing.T) {
	d := disk.New()
	got, r, were := fsck.Clean(d)
	if want := (api.Report{Count: [6]int{api.PairFree: 6}}); !same(got, d) || r != want || len(were) != 0 {
		t.Errorf("Clean is %v, %v, %v", got, r, were)
	}
	if l := fsck.Twice(d); len(l) != 0 {
		t.Errorf("Twice is %v", l)
	}
	if !fsck.Sound(d) {
		t.Error("it is not sound")
	}
	if !fsck.Fits(nil, d) || !fsck.Fits([]api.Entry{}, d) {
		t.Error("an index without entries does not fit")
	}
	if fsck.Fits([]api.Entry{{Record: mark(1, 1)}}, d) || fsck.Fits([]api.Entry{{Record: free()}}, d) || fsck.Fits([]api.Entry{{}}, d) {
		t.Error("an index with an entry fits")
	}
}

// paired is the disk that has these records, pair by pair, and behind them
// pairs that are free.
func paired(records ...api.Record) api.Disk {
	var pairs []laid
	for p := range 6 {
		r := free()
		if p < len(records) {
			r = records[p]
		}
		pairs = append(pairs, whole(r, p))
	}
	return laidOut(pairs)
}

// A version that is there twice: the second one goes.
func TestTheSecondOneGoes(t *testing.T) {
	for _, c := range []struct {
		name    string
		records []api.Record
		twice   []int
	}{
		{"alike", []api.Record{data(7, 3, "ab"), data(7, 3, "ab")}, []int{1}},
		{"of other data", []api.Record{data(7, 3, "ab"), data(7, 3, "z")}, []int{1}},
		{"of another kind", []api.Record{data(7, 3, ""), mark(7, 3)}, []int{1}},
		{"of another key, which is smaller", []api.Record{data(7, 3, "ab"), data(6, 3, "ab")}, []int{1}},
		{"of another key, which is greater", []api.Record{data(7, 3, "ab"), data(8, 3, "ab")}, []int{1}},
		{"of one key, in other versions", []api.Record{data(7, 3, "ab"), data(7, 4, "ab"), data(7, 2, "ab")}, nil},
		{"with a free pair between", []api.Record{free(), mark(7, 3), free(), mark(7, 3)}, []int{3}},
		{"three times", []api.Record{mark(7, 3), mark(8, 4), mark(9, 3), mark(1, 3)}, []int{2, 3}},
		{"two versions", []api.Record{mark(7, 3), mark(7, 4), mark(7, 4), mark(7, 3), mark(7, 5), mark(7, 4)}, []int{2, 3, 5}},
		{"versions whose bytes are turned about", []api.Record{mark(7, 1), mark(7, 256), mark(7, 257), mark(7, 513), mark(7, 1)}, []int{4}},
		{"the greatest version", []api.Record{mark(255, 60000), mark(1, 60000)}, []int{1}},
	} {
		d := paired(c.records...)
		kept := slices.Clone(c.records)
		for _, p := range c.twice {
			kept[p] = free()
		}
		got, _, were := fsck.Clean(d)
		if want := paired(kept...); !same(got, want) || !same(were, c.twice) || !same(fsck.Twice(d), c.twice) {
			t.Errorf("%s: it is %v, %v, Twice %v, not %v, %v", c.name, got, were, fsck.Twice(d), want, c.twice)
		}
		if fsck.Sound(d) != (len(c.twice) == 0) {
			t.Errorf("%s: Sound is %v", c.name, fsck.Sound(d))
		}
	}
}

// A pair that is lost has no version: the next one that tells it is the first.
func TestALostPairIsNoPairAhead(t *testing.T) {
	d := paired(mark(7, 3), mark(7, 3), mark(7, 3))
	d = disk.Spoil(disk.Spoil(d, 0, 1, 1), 1, 1, 1)
	got, r, were := fsck.Clean(d)
	if want := paired(free(), mark(7, 3)); !same(got, want) || !same(were, []int{2}) || !same(fsck.Twice(d), []int{2}) {
		t.Errorf("it is %v, %v, not %v", got, were, want)
	}
	if want := (api.Report{Count: [6]int{api.PairFree: 3, api.PairBoth: 2, api.PairLost: 1}}); r != want {
		t.Errorf("pairs were %v, not %v", r, want)
	}
}

// Of a clash the first block's record is told: what its second one has is of no
// pair, be it ahead or behind.
func TestTheSecondOfAClashIsNotTold(t *testing.T) {
	d := paired(mark(7, 3), mark(7, 5), mark(7, 4))
	d.Blocks[1] = written(mark(7, 4), 1)
	d.Blocks[5] = written(mark(7, 5), 5)
	got, r, were := fsck.Clean(d)
	if want := paired(mark(7, 3), mark(7, 5), mark(7, 4)); !same(got, want) || len(were) != 0 || len(fsck.Twice(d)) != 0 {
		t.Errorf("it is %v, %v, Twice %v, not %v", got, were, fsck.Twice(d), want)
	}
	if want := (api.Report{Count: [6]int{api.PairFree: 3, api.PairBoth: 1, api.PairClash: 2}}); r != want {
		t.Errorf("pairs were %v, not %v", r, want)
	}
	d.Blocks[2], d.Blocks[3] = written(mark(7, 3), 2), written(mark(7, 9), 3)
	if got := fsck.Twice(d); !same(got, []int{1}) {
		t.Errorf("a clash whose first record is there already: Twice is %v", got)
	}
}

// A pair that is twice is counted as it was, not as the free one that it is
// then.
func TestWhatWasTwiceIsCountedAsItWas(t *testing.T) {
	d := paired(mark(7, 3), mark(7, 3), mark(7, 3), mark(7, 3))
	d = disk.Spoil(d, 4, 1, 1)
	d.Blocks[6] = written(data(8, 3, ""), 6)
	_, r, were := fsck.Clean(d)
	if want := (api.Report{Count: [6]int{api.PairFree: 2, api.PairBoth: 2, api.PairOne: 1, api.PairClash: 1}}); r != want || !same(were, []int{1, 2, 3}) {
		t.Errorf("it is %v, %v, not %v", r, were, want)
	}
}

// Late writes are told by Twice, and have entries in the index; Clean and Sound
// do without them.
func TestLateWrites(t *testing.T) {
	below := paired(mark(7, 3), mark(7, 4), free(), mark(7, 4))
	d := below
	for _, x := range []api.Entry{{Record: data(7, 3, "a"), Pair: 1}, {Record: mark(9, 3), Pair: 2}, {Record: mark(7, 9), Pair: 2}, {Record: free(), Pair: 3}} {
		d, _ = pair.Put(d, x.Pair, x.Record)
	}
	if got := fsck.Twice(d); !same(got, []int{1}) {
		t.Errorf("Twice is %v", got)
	}
	got, r, were := fsck.Clean(d)
	want, wantCount := paired(mark(7, 3), mark(7, 4)), api.Report{Count: [6]int{api.PairFree: 3, api.PairBoth: 3}}
	if !same(got, want) || r != wantCount || !same(were, []int{3}) {
		t.Errorf("Clean is %v, %v, %v, not %v, %v", got, r, were, want, wantCount)
	}
	with := []api.Entry{{Record: mark(7, 3), Pair: 0}, {Record: data(7, 3, "a"), Pair: 1}, {Record: mark(7, 9), Pair: 2}}
	without := []api.Entry{{Record: mark(7, 3), Pair: 0}, {Record: mark(7, 4), Pair: 1}, {Record: mark(7, 4), Pair: 3}}
	if !fsck.Fits(with, d) || fsck.Fits(without, d) || fsck.Fits(with, below) || !fsck.Fits(without, below) {
		t.Error("Fits is not of the disk with late writes")
	}
	if fsck.Sound(d) {
		t.Error("late writes would make it sound, and it is")
	}
	sound := paired(mark(7, 3))
	sound.Late = d.Late
	if !fsck.Sound(sound) {
		t.Error("late writes would make it unsound, and it is")
	}
}

// However many late writes there are: the last one of a block is told.
func TestManyLateWrites(t *testing.T) {
	for _, many := range []int{59, 60, 61, 64, 65, 130} {
		d := paired(mark(7, 3))
		for n := range many {
			d, _ = disk.Put(d, 2, written(mark(8, 10+n), 2))
		}
		d, _ = disk.Put(d, 2, written(mark(8, 3), 2))
		if got := fsck.Twice(d); !same(got, []int{1}) {
			t.Errorf("of %d late writes Twice is %v", many, got)
		}
		got, _, were := fsck.Clean(d)
		if want := paired(mark(7, 3)); !same(got, want) || len(were) != 0 || !fsck.Sound(d) {
			t.Errorf("of %d late writes Clean is %v, %v", many, got, were)
		}
	}
}

// done is what these deeds make of a new store.
func done(deeds ...api.Deed) api.Store {
	s := store.New()
	for _, d := range deeds {
		s, _, _ = store.Do(s, d)
	}
	return s
}

// What deeds make of a store is in order, and its index fits.
func TestStoresAreSound(t *testing.T) {
	deeds := []api.Deed{put(7, "ab"), put(9, ""), del(7), put(255, "12345678"), purge(9, 2), put(7, "ab"), put(1, "x"), put(2, "y"), put(3, "z"), purge(7, 1)}
	for n := range len(deeds) + 1 {
		s := done(deeds[:n]...)
		if !fsck.Sound(s.Disk) || !fsck.Fits(s.Index, s.Disk) || len(fsck.Twice(s.Disk)) != 0 {
			t.Errorf("behind %d deeds %v is not in order", n, s)
		}
	}
}

// Whichever byte rots, and however, the disk is not sound, its index fits, and
// it is mended.
func TestEveryByteIsMended(t *testing.T) {
	s := done(put(7, "ab"), put(9, ""), del(7), put(255, "12345678"))
	for at := range 12 {
		for n := range 16 {
			for _, by := range []int{1, 2, 64, 128, 255} {
				want := api.Report{Count: [6]int{api.PairFree: 2, api.PairBoth: 4}}
				if at < 8 {
					want.Count[api.PairBoth], want.Count[api.PairOne] = 3, 1
				} else {
					want.Count[api.PairFree], want.Count[api.PairEmpty] = 1, 1
				}
				rotten := disk.Spoil(s.Disk, at, n, by)
				if got, r, were := fsck.Clean(rotten); r != want || !same(got, s.Disk) || len(were) != 0 {
					t.Fatalf("byte %d of block %d, by %d: it is %v, %v, %v, not %v, %v", n, at, by, got, r, were, s.Disk, want)
				}
				if fsck.Sound(rotten) || !fsck.Fits(s.Index, rotten) {
					t.Fatalf("byte %d of block %d, by %d: Sound is %v, Fits %v", n, at, by, fsck.Sound(rotten), fsck.Fits(s.Index, rotten))
				}
			}
		}
	}
}

// An index does not fit any more when both blocks of a pair have rotted.
func TestTheIndexOfALostPair(t *testing.T) {
	s := done(put(7, "ab"), put(9, "c"))
	lost := disk.Spoil(disk.Spoil(s.Disk, 2, 3, 1), 3, 4, 1)
	if fsck.Fits(s.Index, lost) || !fsck.Fits(s.Index[:1], lost) {
		t.Error("the lost one's entry fits")
	}
	if fsck.Sound(lost) {
		t.Error("it is sound")
	}
}

// A deed that fell with some of its writes is put in order.
func TestADeedThatFellIsPutInOrder(t *testing.T) {
	ahead := done(put(7, "ab"), del(9))
	for _, d := range []api.Deed{put(7, "new"), del(7), purge(7, 1)} {
		begun, _, _ := store.Begin(ahead, d)
		for bits := range 4 {
			fallen := disk.Keep(begun.Disk, bits)
			half := 0
			if bits == 1 || bits == 2 {
				half = 1
			}
			got, r, were := fsck.Clean(fallen)
			if r.Count[api.PairOne] != half || len(were) != 0 || fsck.Sound(fallen) != (half == 0) {
				t.Errorf("%v, with writes %b: it is %v, %v, %v", d, bits, got, r, were)
			}
			if !same(index.Scan(got), index.Scan(fallen)) {
				t.Errorf("%v, with writes %b: %v is told, and behind Clean %v", d, bits, index.Scan(fallen), index.Scan(got))
			}
		}
	}
}

// A scrubber mends what Clean mends; only what is twice is left to Clean.
func TestTheScrubberLeavesWhatIsTwice(t *testing.T) {
	for _, c := range samples() {
		if len(c.d.Late) != 0 {
			continue
		}
		scrubbed, r := scrub.All(store.Mount(c.d))
		got, count, were := fsck.Clean(c.d)
		if r != count || fsck.Sound(scrubbed.Disk) != (len(were) == 0) || same(scrubbed.Disk, got) != (len(were) == 0) {
			t.Errorf("Clean(%v) is %v, %v, %v, and All is %v, %v", c.d, got, count, were, scrubbed.Disk, r)
		}
	}
}

// wrongs are indexes that are not quite l.
func wrongs(l []api.Entry) map[string][]api.Entry {
	out := map[string][]api.Entry{
		"nothing":               nil,
		"one more":              append(ownEntries(l), api.Entry{Record: mark(255, 60000), Pair: 5}),
		"one that is free more": append(ownEntries(l), api.Entry{Record: free(), Pair: 5}),
		"all of it twice":       append(ownEntries(l), ownEntries(l)...),
		"the other way about":   ownEntries(l),
	}
	slices.Reverse(out["the other way about"])
	for i := range l {
		out[fmt.Sprintf("without %d", i)] = slices.Delete(ownEntries(l), i, i+1)
		out[fmt.Sprintf("%d twice", i)] = slices.Insert(ownEntries(l), i, l[i])
		if i > 0 {
			x := ownEntries(l)
			x[i-1], x[i] = x[i], x[i-1]
			out[fmt.Sprintf("%d ahead of the one ahead", i)] = x
		}
		for name, change := range map[string]func(*api.Entry){
			"pair":           func(e *api.Entry) { e.Pair += 2 },
			"negative pair":  func(e *api.Entry) { e.Pair = math.MinInt + e.Pair },
			"kind":           func(e *api.Entry) { e.Record.Kind = 5 - e.Record.Kind },
			"kind that none": func(e *api.Entry) { e.Record.Kind += 256 },
			"key":            func(e *api.Entry) { e.Record.Key++ },
			"key that none":  func(e *api.Entry) { e.Record.Key += 256 },
			"version":        func(e *api.Entry) { e.Record.Version++ },
			"wrapped":        func(e *api.Entry) { e.Record.Version += 65536 },
			"more data":      func(e *api.Entry) { e.Record.Data = append(bytes.Clone(e.Record.Data), 0) },
			"other data":     func(e *api.Entry) { e.Record.Data = []byte("other") },
		} {
			x := ownEntries(l)
			change(&x[i])
			out[fmt.Sprintf("another %s of %d", name, i)] = x
		}
	}
	return out
}

func TestWhatDoesNotFit(t *testing.T) {
	pairs := []laid{whole(data(9, 3, "ab"), 0), whole(mark(7, 4), 1), whole(data(9, 3, "ab"), 2), whole(data(7, 1, ""), 3), whole(free(), 4), whole(free(), 5)}
	d, l := laidOut(pairs), indexed(pairs)
	if len(l) != 4 || !fsck.Fits(l, d) {
		t.Fatalf("%v does not fit %v", l, d)
	}
	for name, x := range wrongs(l) {
		if fsck.Fits(x, d) {
			t.Errorf("%s: %v fits %v", name, x, d)
		}
	}
	empty := ownEntries(l)
	for i, e := range empty {
		if len(e.Record.Data) == 0 {
			empty[i].Record.Data = []byte{}
		}
	}
	none := ownEntries(l)
	for i, e := range none {
		if len(e.Record.Data) == 0 {
			none[i].Record.Data = nil
		}
	}
	if !fsck.Fits(empty, d) || !fsck.Fits(none, d) {
		t.Error("data that is nil, or empty, does not fit")
	}
}

// roomyBytes are b, and spare room behind them with something in it.
func roomyBytes(b []byte) []byte { return append(bytes.Clone(b), "spare"...)[:len(b)] }

// roomy is d with spare room behind every list, and something in it: blocks and
// writes that would make a difference.
func roomy(d api.Disk) api.Disk {
	var out api.Disk
	for _, b := range d.Blocks {
		out.Blocks = append(out.Blocks, roomyBytes(b))
	}
	for _, w := range d.Late {
		out.Late = append(out.Late, api.Write{At: w.At, Data: roomyBytes(w.Data)})
	}
	for at := range 12 {
		r := data(7, 300, "spare")
		out.Blocks = append(out.Blocks, written(r, at))
		out.Late = append(out.Late, api.Write{At: at, Data: written(r, at)})
	}
	return api.Disk{Blocks: out.Blocks[:len(d.Blocks)], Late: out.Late[:len(d.Late)]}
}

// roomyEntries is l, likewise.
func roomyEntries(l []api.Entry) []api.Entry {
	var out []api.Entry
	for _, e := range l {
		e.Record.Data = roomyBytes(e.Record.Data)
		out = append(out, e)
	}
	return append(out, api.Entry{Record: data(7, 300, "spare"), Pair: 5})[:len(l)]
}

// given is all that a call of this package may be handed.
type given struct {
	d api.Disk
	l []api.Entry
}

// reached is a copy of all that can be reached from g, spare room too.
func (g given) reached() given {
	d := copyOf(api.Disk{Blocks: g.d.Blocks[:cap(g.d.Blocks)], Late: g.d.Late[:cap(g.d.Late)]})
	for at, b := range g.d.Blocks[:cap(g.d.Blocks)] {
		d.Blocks[at] = bytes.Clone(b[:cap(b)])
	}
	for i, w := range g.d.Late[:cap(g.d.Late)] {
		d.Late[i].Data = bytes.Clone(w.Data[:cap(w.Data)])
	}
	l := slices.Clone(g.l[:cap(g.l)])
	for i, e := range l {
		l[i].Record.Data = bytes.Clone(e.Record.Data[:cap(e.Record.Data)])
	}
	return given{d, l}
}

// wipe turns all that can be reached from g, spare room too.
func (g given) wipe() {
	wipeDisk(g.d)
	for _, e := range g.l[:cap(g.l)] {
		wipeBytes(e.Record.Data)
	}
	clear(g.l[:cap(g.l)])
}

func wipeDisk(d api.Disk) {
	for _, b := range d.Blocks[:cap(d.Blocks)] {
		wipeBytes(b)
	}
	for _, w := range d.Late[:cap(d.Late)] {
		wipeBytes(w.Data)
	}
	clear(d.Blocks[:cap(d.Blocks)])
	clear(d.Late[:cap(d.Late)])
}

func wipeBytes(b []byte) {
	b = b[:cap(b)]
	for n := range b {
		b[n] ^= 255
	}
}

func wipeNumbers(l []int) {
	l = l[:cap(l)]
	for n := range l {
		l[n] = -9
	}
}

// answer is all that a call of this package may answer.
type answer struct {
	d     api.Disk
	r     api.Report
	pairs []int
	ok    bool
}

func (a answer) wipe() {
	wipeDisk(a.d)
	wipeNumbers(a.pairs)
}

type call struct {
	name string
	do   func(given) answer
}

func calls() []call {
	return []call{
		{"Twice", func(g given) answer { return answer{pairs: fsck.Twice(g.d)} }},
		{"Clean", func(g given) answer {
			d, r, pairs := fsck.Clean(g.d)
			return answer{d: d, r: r, pairs: pairs}
		}},
		{"Sound", func(g given) answer { return answer{ok: fsck.Sound(g.d)} }},
		{"Fits", func(g given) answer { return answer{ok: fsck.Fits(g.l, g.d)} }},
	}
}

func TestNoCallChangesOrKeepsWhatItIsHanded(t *testing.T) {
	for _, c := range calls() {
		for _, x := range samples() {
			g := given{x.d, indexed(x.got)}
			want := fmt.Sprint(c.do(g))
			g = given{roomy(g.d), roomyEntries(g.l)}
			room := g.reached()
			got := c.do(g)
			if fmt.Sprint(got) != want {
				t.Errorf("%s: of %v with spare room behind it is %v, not %v", c.name, x.d, got, want)
			}
			if !same(g.reached(), room) {
				t.Errorf("%s: what was handed in, %v, is changed", c.name, x.d)
			}
			got.wipe()
			if !same(g.reached(), room) {
				t.Errorf("%s: what was handed in, %v, changed with the answer", c.name, x.d)
			}
			got = c.do(g)
			if fmt.Sprint(got) != want {
				t.Errorf("%s: of %v it is %v, and then %v", c.name, x.d, want, got)
			}
			g.wipe()
			if fmt.Sprint(got) != want {
				t.Errorf("%s: the answer of %v changed with what was handed in", c.name, x.d)
			}
		}
	}
}

// A record that is mended stands in two blocks, but in no memory twice.
func TestListsOfAnAnswerShareNoMemory(t *testing.T) {
	for _, x := range samples() {
		d, _, _ := fsck.Clean(x.d)
		for at, b := range d.Blocks {
			kept := copyOf(d)
			wipeBytes(b)
			kept.Blocks[at] = bytes.Clone(b)
			if !same(d, kept) {
				t.Errorf("of %v block %d shares memory with another one", x.d, at)
			}
		}
	}
}

func TestNilAndEmptyAreTheSame(t *testing.T) {
	bare, empty := disk.New(), disk.New()
	bare.Late, empty.Late = nil, []api.Write{}
	for _, c := range calls() {
		for _, x := range [][2]api.Disk{{bare, empty}, {{}, {Blocks: [][]byte{}, Late: []api.Write{}}}} {
			a, b := c.do(given{x[0], nil}), c.do(given{x[1], []api.Entry{}})
			if !same(a, b) {
				t.Errorf("%s: with nil lists it is %v, with empty ones %v", c.name, a, b)
			}
		}
	}
}

// The document says nothing of what is no disk, or no index; a call must still
// end without a panic, and leave what it is handed.
func TestWhatIsNoDisk(t *testing.T) {
	short := paired(mark(7, 3), mark(7, 3))
	short.Blocks = short.Blocks[:3]
	long := paired(mark(7, 3), mark(7, 3))
	long.Blocks = append(long.Blocks, copyOf(long).Blocks...)
	strange := paired(mark(7, 3), mark(7, 3), mark(7, 4))
	strange.Blocks[2], strange.Blocks[5] = nil, make([]byte, 99)
	strange.Late = []api.Write{{}, {At: -1}, {At: 12, Data: []byte{1}}, {At: math.MaxInt}, {At: 7, Data: []byte("7")}}
	indexes := [][]api.Entry{nil, {{}}, {{Pair: -1}, {Record: mark(math.MinInt, math.MaxInt), Pair: math.MaxInt}}}
	for i, d := range []api.Disk{{}, {Late: strange.Late}, short, long, strange} {
		for _, l := range indexes {
			g := given{d, l}
			kept := g.reached()
			for _, c := range calls() {
				c.do(g)
				if !same(g.reached(), kept) {
					t.Errorf("%d: %s changed what was handed in", i, c.name)
				}
			}
		}
	}
	if got, r, were := fsck.Clean(strange); !same(got, paired(mark(7, 3), free(), mark(7, 4))) || r.Count[api.PairOne] != 2 || !same(were, []int{1}) {
		t.Errorf("of blocks that are too short, or too long, it is %v, %v, %v", got, r, were)
	}
	if fsck.Sound(strange) {
		t.Error("with blocks that are too short, or too long, it is sound")
	}
}
