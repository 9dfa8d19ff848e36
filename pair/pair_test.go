package pair_test

import (
	"bytes"
	"fmt"
	"math"
	"testing"

	"scrubstore/api"
	"scrubstore/disk"
	"scrubstore/pair"
)

func free() api.Record { return api.Record{Kind: api.KindFree} }

func mark(key, version int) api.Record {
	return api.Record{Kind: api.KindMark, Key: key, Version: version}
}

func data(key, version int, s string) api.Record {
	return api.Record{Kind: api.KindData, Key: key, Version: version, Data: []byte(s)}
}

// sealed is a block of these bytes, noughts behind them, and a right sum,
// written out here once more so that no test leans on package block.
func sealed(head ...byte) []byte {
	b := append(head, make([]byte, 14-len(head))...)
	n := 3
	for _, x := range b {
		n = (n*131 + int(x) + 1) % 65521
	}
	return append(b, byte(n/256), byte(n%256))
}

// written is the block of r at a place.
func written(r api.Record, at int) []byte {
	head := []byte{byte(r.Kind), byte(at), byte(r.Key), byte(r.Version / 256), byte(r.Version % 256), byte(len(r.Data))}
	return sealed(append(head, r.Data...)...)
}

// rights are right records, at the edges of every limit and within.
func rights() []api.Record {
	return []api.Record{
		free(), {Kind: api.KindFree, Data: []byte{}},
		mark(1, 1), mark(255, 60000), mark(7, 256),
		data(1, 1, ""), data(7, 3, "ab"), data(255, 60000, "12345678"), data(128, 255, "\x00"),
		data(9, 59999, "\xff\xff\xff\xff\xff\xff\xff\xff"), data(9, 300, "\x00\x00\x00\x00\x00\x00\x00\x00"),
	}
}

type wrong struct {
	r    api.Record
	want api.Errno
}

// wrongs are records that are not right; of some of them several errors fit.
func wrongs() []wrong {
	return []wrong{
		{api.Record{}, api.ErrKind},
		{api.Record{Kind: -1}, api.ErrKind},
		{api.Record{Kind: 4, Key: 1, Version: 1}, api.ErrKind},
		{api.Record{Kind: 257}, api.ErrKind},
		{api.Record{Kind: math.MinInt, Key: 256, Data: []byte("123456789")}, api.ErrKind},
		{api.Record{Kind: api.KindFree, Key: 1}, api.ErrRange},
		{api.Record{Kind: api.KindFree, Version: 1, Data: []byte("a")}, api.ErrRange},
		{mark(0, 1), api.ErrRange},
		{mark(256, 1), api.ErrRange},
		{mark(1, 0), api.ErrRange},
		{data(1, 60001, "a"), api.ErrRange},
		{data(-1, 1, "a"), api.ErrRange},
		{data(math.MaxInt, math.MinInt, "123456789"), api.ErrRange},
		{api.Record{Kind: api.KindFree, Data: []byte("a")}, api.ErrMuch},
		{api.Record{Kind: api.KindMark, Key: 1, Version: 1, Data: []byte{0}}, api.ErrMuch},
		{data(1, 1, "123456789"), api.ErrMuch},
		{api.Record{Kind: api.KindData, Key: 1, Version: 1, Data: make([]byte, 256)}, api.ErrMuch},
	}
}

// noPairs are numbers of no pair; doubled, some of them wrap round to a block
// that there is.
func noPairs() []int {
	return []int{-1, -2, -6, 6, 7, 11, 12, 128, 256, 1 << 31, 1 << 32, 1 << 62, 1<<62 + 1, math.MinInt, math.MinInt + 1, math.MinInt + 5, math.MaxInt, math.MaxInt - 1}
}

// side is what one block of a pair may be: free, told a record, or spoilt.
type side struct {
	name   string
	bytes  func(at int) []byte
	tells  api.Record
	spoilt bool
}

func (s side) isFree() bool { return !s.spoilt && s.tells.Kind == api.KindFree }

func telling(name string, r api.Record) side {
	return side{name: name, bytes: func(at int) []byte { return written(r, at) }, tells: r}
}

func spoilt(name string, b func(at int) []byte) side {
	return side{name: name, bytes: b, tells: free(), spoilt: true}
}

// turned is the block of r with one byte turned.
func turned(r api.Record, n int) func(int) []byte {
	return func(at int) []byte {
		b := written(r, at)
		b[n] ^= 1
		return b
	}
}

// sides has a block of every kind, those that are spoilt for every reason that
// a block has.
func sides() []side {
	r := data(7, 3, "ab")
	return []side{
		telling("free", free()),
		telling("a data record", r),
		telling("another kind", mark(7, 3)),
		telling("another key", data(8, 3, "ab")),
		telling("another version", data(7, 4, "ab")),
		telling("other data", data(7, 3, "ac")),
		telling("shorter data", data(7, 3, "a")),
		telling("no data", data(7, 3, "")),
		spoilt("data that is turned", turned(r, 7)),
		spoilt("a kind that is turned", turned(free(), 0)),
		spoilt("a sum that is turned", turned(free(), 15)),
		spoilt("noughts", func(int) []byte { return make([]byte, api.BlockSize) }),
		spoilt("free, of the next place", func(at int) []byte { return written(free(), at+1) }),
		spoilt("data, of the place ahead", func(at int) []byte { return written(r, at+255) }),
		spoilt("too much data", func(at int) []byte { return sealed(2, byte(at), 7, 0, 3, 9) }),
		spoilt("no noughts behind", func(at int) []byte { return sealed(2, byte(at), 7, 0, 3, 1, 'a', 'b') }),
		spoilt("no such kind", func(at int) []byte { return sealed(4, byte(at), 7, 0, 3) }),
		spoilt("no such key", func(at int) []byte { return sealed(2, byte(at), 0, 0, 3) }),
		spoilt("a mark with data", func(at int) []byte { return sealed(3, byte(at), 7, 0, 3, 1, 'a') }),
	}
}

// state is what Look must answer of a pair of these blocks.
func state(a, b side) (int, api.Record) {
	switch {
	case a.spoilt && b.spoilt:
		return api.PairLost, free()
	case a.spoilt && b.isFree(), b.spoilt && a.isFree():
		return api.PairEmpty, free()
	case a.isFree() && b.isFree():
		return api.PairFree, free()
	case a.spoilt || a.isFree():
		return api.PairOne, b.tells
	case b.spoilt || b.isFree():
		return api.PairOne, a.tells
	case like(a.tells, b.tells):
		return api.PairBoth, a.tells
	}
	return api.PairClash, a.tells
}

func like(a, b api.Record) bool {
	return a.Kind == b.Kind && a.Key == b.Key && a.Version == b.Version && string(a.Data) == string(b.Data)
}

// around is a disk whose pair p has these blocks, and whose other pairs tell
// records of their own.
func around(p int, first, second []byte) api.Disk {
	var d api.Disk
	for at := range api.MaxBlocks {
		d.Blocks = append(d.Blocks, written(data(100+at, 1, "else"), at))
	}
	d.Blocks[2*p], d.Blocks[2*p+1] = first, second
	return d
}

type layout struct {
	name string
	disk func(p int, first, second []byte) api.Disk
}

// layouts lay a pair on the disk, in late writes, and half and half; where a
// block is late, what it hides is something else.
func layouts() []layout {
	hidden := func(p, n int) []byte { return written(data(99, 9, "hidden"), 2*p+n) }
	return []layout{
		{"on the disk", around},
		{"first one late", func(p int, first, second []byte) api.Disk {
			d := around(p, hidden(p, 0), second)
			d.Late = []api.Write{{At: 2 * p, Data: first}}
			return d
		}},
		{"second one late", func(p int, first, second []byte) api.Disk {
			d := around(p, first, hidden(p, 1))
			d.Late = []api.Write{{At: 2*p + 1, Data: second}}
			return d
		}},
		{"both late, and ahead of that something else", func(p int, first, second []byte) api.Disk {
			d := around(p, make([]byte, 16), make([]byte, 16))
			d.Late = []api.Write{
				{At: 2*p + 1, Data: hidden(p, 1)}, {At: 2 * p, Data: hidden(p, 0)},
				{At: 2*p + 1, Data: second}, {At: 2 * p, Data: first},
				{At: (2*p + 2) % 12, Data: make([]byte, 16)},
			}
			return d
		}},
	}
}

// everyPair does it with pairs of all blocks by all blocks, in all layouts.
func everyPair(do func(name string, d api.Disk, p int, a, b side)) {
	for _, l := range layouts() {
		for _, a := range sides() {
			for _, b := range sides() {
				for _, p := range []int{0, 2, 5} {
					name := fmt.Sprintf("pair %d %s: %s, %s", p, l.name, a.name, b.name)
					do(name, l.disk(p, a.bytes(2*p), b.bytes(2*p+1)), p, a, b)
				}
			}
		}
	}
}

// copyOf is a deep copy, made without package disk.
func copyOf(d api.Disk) api.Disk {
	var out api.Disk
	for _, b := range d.Blocks {
		out.Blocks = append(out.Blocks, bytes.Clone(b))
	}
	for _, w := range d.Late {
		out.Late = append(out.Late, api.Write{At: w.At, Data: bytes.Clone(w.Data)})
	}
	return out
}

// withPut is what Put must make of d.
func withPut(d api.Disk, p int, r api.Record) api.Disk {
	out := copyOf(d)
	for _, at := range []int{2 * p, 2*p + 1} {
		out.Late = append(out.Late, api.Write{At: at, Data: written(r, at)})
	}
	return out
}

func same(a, b api.Disk) bool {
	if len(a.Blocks) != len(b.Blocks) || len(a.Late) != len(b.Late) {
		return false
	}
	for at := range a.Blocks {
		if !bytes.Equal(a.Blocks[at], b.Blocks[at]) {
			return false
		}
	}
	for i, w := range a.Late {
		if w.At != b.Late[i].At || !bytes.Equal(w.Data, b.Late[i].Data) {
			return false
		}
	}
	return true
}

// wipe turns every byte that can be reached from d, spare room too.
func wipe(d api.Disk) {
	blocks, writes := d.Blocks[:cap(d.Blocks)], d.Late[:cap(d.Late)]
	for at := range blocks {
		wipeBytes(blocks[at])
		blocks[at] = nil
	}
	for i := range writes {
		wipeBytes(writes[i].Data)
		writes[i] = api.Write{At: -7}
	}
}

func wipeBytes(b []byte) {
	b = b[:cap(b)]
	for n := range b {
		b[n] ^= 255
	}
}

// roomy is d with spare room behind every list, and something in it.
func roomy(d api.Disk) api.Disk {
	more := func(b []byte) []byte { return append(bytes.Clone(b), "spare"...)[:len(b)] }
	var blocks [][]byte
	for _, b := range d.Blocks {
		blocks = append(blocks, more(b))
	}
	blocks = append(blocks, written(mark(3, 3), 12), written(mark(3, 3), 13))
	var writes []api.Write
	for _, w := range d.Late {
		writes = append(writes, api.Write{At: w.At, Data: more(w.Data)})
	}
	for at := range api.MaxBlocks {
		writes = append(writes, api.Write{At: at, Data: written(mark(4, 4), at)})
	}
	return api.Disk{Blocks: blocks[:len(d.Blocks)], Late: writes[:len(d.Late)]}
}

// reached is d with its spare room.
func reached(d api.Disk) api.Disk {
	return api.Disk{Blocks: d.Blocks[:cap(d.Blocks)], Late: d.Late[:cap(d.Late)]}
}

func TestLookAtEveryPair(t *testing.T) {
	seen := map[int]int{}
	everyPair(func(name string, d api.Disk, p int, a, b side) {
		wantHow, want := state(a, b)
		how, r := pair.Look(d, p)
		if how != wantHow || !like(r, want) {
			t.Errorf("%s: Look is %d, %v, not %d, %v", name, how, r, wantHow, want)
		}
		seen[how]++
	})
	for how := range 6 {
		if seen[how] == 0 {
			t.Errorf("no pair is %d", how)
		}
	}
}

func TestLookKnownPairs(t *testing.T) {
	r, q := data(7, 3, "ab"), mark(8, 4)
	rot := make([]byte, 16)
	for _, c := range []struct {
		first, second []byte
		how           int
		r             api.Record
	}{
		{written(free(), 4), written(free(), 5), 0, free()},
		{written(r, 4), written(r, 5), 1, r},
		{written(r, 4), written(free(), 5), 2, r},
		{written(free(), 4), written(r, 5), 2, r},
		{written(r, 4), rot, 2, r},
		{rot, written(r, 5), 2, r},
		{written(free(), 4), rot, 3, free()},
		{rot, written(free(), 5), 3, free()},
		{rot, rot, 4, free()},
		{written(r, 4), written(q, 5), 5, r},
		{written(q, 4), written(r, 5), 5, q},
		{written(r, 5), written(r, 4), 4, free()},
		{written(r, 4), written(r, 4), 2, r},
	} {
		if how, got := pair.Look(around(2, c.first, c.second), 2); how != c.how || !like(got, c.r) {
			t.Errorf("of %v, %v Look is %d, %v, not %d, %v", c.first, c.second, how, got, c.how, c.r)
		}
	}
}

func TestLookAtANewDisk(t *testing.T) {
	for p := range api.MaxPairs {
		if how, r := pair.Look(disk.New(), p); how != api.PairFree || !like(r, free()) {
			t.Errorf("pair %d of a new disk is %d, %v", p, how, r)
		}
	}
}

// Every record that a pair can tell is told whole, by both blocks or by one.
func TestLookTellsEveryRecord(t *testing.T) {
	for _, r := range rights()[2:] {
		for p := range api.MaxPairs {
			first, second, rot := written(r, 2*p), written(r, 2*p+1), make([]byte, 16)
			for _, c := range []struct {
				d    api.Disk
				want int
			}{
				{around(p, first, second), api.PairBoth},
				{around(p, first, rot), api.PairOne},
				{around(p, rot, second), api.PairOne},
			} {
				if how, got := pair.Look(c.d, p); how != c.want || !like(got, r) {
					t.Errorf("pair %d of %v is %d, %v, not %d", p, r, how, got, c.want)
				}
			}
		}
	}
}

func TestLookWhereNoPairIs(t *testing.T) {
	for _, p := range noPairs() {
		for i, d := range []api.Disk{disk.New(), around(0, written(mark(1, 1), 0), written(mark(1, 1), 1)), roomy(disk.New())} {
			if how, r := pair.Look(d, p); how != api.PairLost || !like(r, free()) {
				t.Errorf("disk %d: Look at %d is %d, %v", i, p, how, r)
			}
		}
	}
}

func TestLookAnswersNewMemory(t *testing.T) {
	r := data(7, 3, "ab")
	for _, l := range layouts() {
		d := roomy(l.disk(2, written(r, 4), written(r, 5)))
		kept, room := copyOf(d), copyOf(reached(d))
		_, got := pair.Look(d, 2)
		if !same(d, kept) || !same(reached(d), room) {
			t.Errorf("%s: Look changed the disk", l.name)
		}
		wipeBytes(got.Data)
		if !same(d, kept) || !same(reached(d), room) {
			t.Errorf("%s: the disk changed with the record", l.name)
		}
		how, got := pair.Look(d, 2)
		wipe(d)
		if how != api.PairBoth || !like(got, r) {
			t.Errorf("%s: with spare room behind, and the disk changed, Look was %d, %v", l.name, how, got)
		}
	}
}

func TestPutIsTwoLateWrites(t *testing.T) {
	for _, r := range rights() {
		everyPair(func(name string, d api.Disk, p int, _, _ side) {
			want := withPut(d, p, r)
			if got, err := pair.Put(d, p, r); err != api.OK || !same(got, want) {
				t.Errorf("%s: Put of %v is %v, %d, not %v", name, r, got, err, want)
			}
		})
	}
}

func TestPutKnownBytes(t *testing.T) {
	d, err := pair.Put(disk.New(), 2, data(7, 3, "ab"))
	if err != api.OK || len(d.Late) != 2 || !same(api.Disk{Blocks: d.Blocks}, disk.New()) {
		t.Fatalf("Put is %v, %d", d, err)
	}
	for i, w := range d.Late {
		at := 4 + i
		if head := []byte{2, byte(at), 7, 0, 3, 2, 'a', 'b', 0, 0, 0, 0, 0, 0}; w.At != at || len(w.Data) != 16 || !bytes.Equal(w.Data[:14], head) {
			t.Errorf("late write %d is %v", i, w)
		}
	}
}

func TestPutAndThenLook(t *testing.T) {
	for _, r := range rights() {
		for p := range api.MaxPairs {
			before := around(0, written(mark(1, 1), 0), make([]byte, 16))
			d, err := pair.Put(before, p, r)
			want := api.PairBoth
			if r.Kind == api.KindFree {
				want = api.PairFree
			}
			for name, x := range map[string]api.Disk{"late": d, "flushed": disk.Flush(d)} {
				if how, got := pair.Look(x, p); err != api.OK || how != want || !like(got, r) {
					t.Errorf("%s: put %v to pair %d, Look is %d, %v", name, r, p, how, got)
				}
				for other := range api.MaxPairs {
					wantHow, wantRecord := pair.Look(before, other)
					if how, got := pair.Look(x, other); other != p && (how != wantHow || !like(got, wantRecord)) {
						t.Errorf("%s: a put to pair %d makes %d, %v of pair %d", name, p, how, got, other)
					}
				}
			}
		}
	}
}

// Of a put some writes may be lost: the first one alone, the second one alone.
func TestPutOfWhichSomeIsLost(t *testing.T) {
	r, q := data(7, 3, "ab"), mark(8, 4)
	once, _ := pair.Put(disk.New(), 3, r)
	again, _ := pair.Put(disk.Flush(once), 3, q)
	for _, c := range []struct {
		d    api.Disk
		bits int
		how  int
		r    api.Record
	}{
		{once, 0, api.PairFree, free()}, {once, 1, api.PairOne, r}, {once, 2, api.PairOne, r}, {once, 3, api.PairBoth, r},
		{again, 0, api.PairBoth, r}, {again, 1, api.PairClash, q}, {again, 2, api.PairClash, r}, {again, 3, api.PairBoth, q},
	} {
		if how, got := pair.Look(disk.Keep(c.d, c.bits), 3); how != c.how || !like(got, c.r) {
			t.Errorf("when %b is kept the pair is %d, %v, not %d, %v", c.bits, how, got, c.how, c.r)
		}
	}
}

func TestPutWhereNoPairIs(t *testing.T) {
	d, _ := pair.Put(disk.New(), 1, mark(1, 1))
	for _, p := range noPairs() {
		for _, r := range rights() {
			if got, err := pair.Put(d, p, r); err != api.ErrRange || !same(got, d) {
				t.Errorf("Put of %v to %d is %v, %d", r, p, got, err)
			}
		}
		for _, w := range wrongs() { // that there is no such pair is told first
			if got, err := pair.Put(d, p, w.r); err != api.ErrRange || !same(got, d) {
				t.Errorf("Put of %v to %d is %v, %d", w.r, p, got, err)
			}
		}
	}
}

func TestPutOfWrongRecords(t *testing.T) {
	d, _ := pair.Put(disk.New(), 1, mark(1, 1))
	for _, w := range wrongs() {
		for p := range api.MaxPairs {
			if got, err := pair.Put(d, p, w.r); err != w.want || !same(got, d) {
				t.Errorf("Put of %v to %d is %v, %d, not %d", w.r, p, got, err, w.want)
			}
		}
	}
}

func TestPutOwnsItsRecord(t *testing.T) {
	room := []byte("abcdefgh")
	r := data(7, 3, "")
	r.Data = room[:2]
	d, err := pair.Put(disk.New(), 2, r)
	if err != api.OK || string(room) != "abcdefgh" {
		t.Fatalf("Put is %d, and makes %q of the record's memory", err, room)
	}
	clear(room)
	if want := withPut(disk.New(), 2, data(7, 3, "ab")); !same(d, want) {
		t.Errorf("the writes changed with the record: %v", d.Late)
	}
	copy(room, "abcdefgh")
	wipe(d)
	if string(room) != "abcdefgh" {
		t.Errorf("the record changed with the writes: %q", room)
	}
}

func TestMendOfEveryPair(t *testing.T) {
	everyPair(func(name string, d api.Disk, p int, a, b side) {
		how, r := state(a, b)
		want := d
		if how != api.PairFree && how != api.PairBoth {
			want = withPut(d, p, r)
		}
		got, was := pair.Mend(d, p)
		if was != how || !same(got, want) {
			t.Errorf("%s: Mend is %v, %d, not %v, %d", name, got, was, want, how)
		}
	})
}

// Mended, it tells the same, twice; once is enough, and no other pair is touched.
func TestMendedPairsTellTheSame(t *testing.T) {
	everyPair(func(name string, d api.Disk, p int, _, _ side) {
		_, before := pair.Look(d, p)
		mended, _ := pair.Mend(d, p)
		want := api.PairBoth
		if before.Kind == api.KindFree {
			want = api.PairFree
		}
		for _, x := range []api.Disk{mended, disk.Flush(mended)} {
			if how, r := pair.Look(x, p); how != want || !like(r, before) {
				t.Errorf("%s: mended, it is %d, %v, not %d, %v", name, how, r, want, before)
			}
			if again, was := pair.Mend(x, p); was != want || !same(again, x) {
				t.Errorf("%s: mended twice it is other than once", name)
			}
			for other := range api.MaxPairs {
				wantHow, wantRecord := pair.Look(d, other)
				if how, r := pair.Look(x, other); other != p && (how != wantHow || !like(r, wantRecord)) {
					t.Errorf("%s: mending it makes %d, %v of pair %d", name, how, r, other)
				}
			}
		}
	})
}

// One is enough: whichever byte of one block rots, the other one tells.
func TestMendOfOneByteThatRots(t *testing.T) {
	r := data(7, 3, "ab")
	put, _ := pair.Put(disk.New(), 4, r)
	put = disk.Flush(put)
	for at := 8; at <= 9; at++ {
		for n := range api.BlockSize {
			for _, by := range []int{1, 2, 128, 255} {
				mended, was := pair.Mend(disk.Spoil(put, at, n, by), 4)
				if was != api.PairOne || !same(disk.Flush(mended), put) {
					t.Errorf("byte %d of block %d turned by %d: it was %d, and is not as it was", n, at, by, was)
				}
			}
		}
	}
}

// The document says nothing of such numbers but that no call panics.
func TestMendWhereNoPairIs(t *testing.T) {
	d, _ := pair.Put(disk.New(), 1, mark(1, 1))
	for _, p := range noPairs() {
		if got, was := pair.Mend(d, p); was != api.PairLost || !same(got, d) {
			t.Errorf("Mend of %d is %v, %d", p, got, was)
		}
	}
}

type change struct {
	name string
	do   func(api.Disk) api.Disk
}

// changes are all calls that make a disk of a disk.
func changes() []change {
	put := func(p int, r api.Record) func(api.Disk) api.Disk {
		return func(d api.Disk) api.Disk {
			out, _ := pair.Put(d, p, r)
			return out
		}
	}
	mend := func(p int) func(api.Disk) api.Disk {
		return func(d api.Disk) api.Disk {
			out, _ := pair.Mend(d, p)
			return out
		}
	}
	return []change{
		{"Put", put(2, data(7, 3, "ab"))}, {"Put where no pair is", put(6, mark(1, 1))}, {"Put of no kind", put(2, api.Record{})},
		{"Mend", mend(2)}, {"Mend of another pair", mend(0)}, {"Mend where no pair is", mend(6)},
	}
}

// someDisks have a pair 2 of every state.
func someDisks() []api.Disk {
	r, rot := data(7, 3, "ab"), make([]byte, 16)
	var out []api.Disk
	for _, l := range layouts() {
		for _, first := range [][]byte{written(free(), 4), written(r, 4), rot} {
			for _, second := range [][]byte{written(free(), 5), written(r, 5), written(mark(8, 4), 5), rot} {
				out = append(out, copyOf(l.disk(2, first, second)))
			}
		}
	}
	return out
}

func TestNoCallChangesOrKeepsTheDiskItIsHanded(t *testing.T) {
	for _, c := range changes() {
		for i, plain := range someDisks() {
			want := copyOf(c.do(plain))
			given := roomy(plain)
			kept, room := copyOf(given), copyOf(reached(given))
			got := c.do(given)
			if !same(got, want) {
				t.Errorf("%s, disk %d: with spare room behind its lists it is %v, not %v", c.name, i, got, want)
			}
			if !same(given, kept) || !same(reached(given), room) {
				t.Errorf("%s, disk %d: what was handed in is changed", c.name, i)
			}
			wipe(got)
			if !same(given, kept) || !same(reached(given), room) {
				t.Errorf("%s, disk %d: what was handed in changed with the answer", c.name, i)
			}
			got = c.do(given)
			wipe(given)
			if !same(got, want) {
				t.Errorf("%s, disk %d: the answer changed with what was handed in", c.name, i)
			}
		}
	}
}

func TestListsOfAnAnswerShareNoMemory(t *testing.T) {
	for _, c := range changes() {
		for i, given := range someDisks() {
			d := c.do(given)
			lists := append([][]byte{}, d.Blocks...)
			for _, w := range d.Late {
				lists = append(lists, w.Data)
			}
			for n, b := range lists {
				before := copyOf(api.Disk{Blocks: lists})
				wipeBytes(b)
				wipeBytes(before.Blocks[n][:len(b)])
				if !same(before, api.Disk{Blocks: lists}) {
					t.Errorf("%s, disk %d: list %d shares memory with another one", c.name, i, n)
				}
			}
		}
	}
}

// The document says nothing of what is no disk; a call must still end without
// a panic, and put nothing where a pair has not both blocks.
func TestWhatIsNoDisk(t *testing.T) {
	whole := disk.New()
	for i, d := range []api.Disk{
		{},
		{Late: []api.Write{{At: 0, Data: written(mark(1, 1), 0)}, {At: 1, Data: written(mark(1, 1), 1)}}},
		{Blocks: whole.Blocks[:1]},
		{Blocks: make([][]byte, 1), Late: []api.Write{{}, {At: -1}, {At: 12, Data: []byte{1}}}},
	} {
		kept := copyOf(d)
		for p := range api.MaxPairs {
			if how, r := pair.Look(d, p); how != api.PairLost && how != api.PairEmpty || !like(r, free()) {
				t.Errorf("%d: Look at %d is %d, %v", i, p, how, r)
			}
			if got, err := pair.Put(d, p, mark(1, 1)); err != api.ErrRange || !same(got, kept) {
				t.Errorf("%d: Put to %d is %v, %d", i, p, got, err)
			}
			if got, _ := pair.Mend(d, p); !same(got, kept) {
				t.Errorf("%d: Mend of %d is %v", i, p, got)
			}
		}
	}
}
