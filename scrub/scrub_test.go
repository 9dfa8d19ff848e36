package scrub_test

import (
	"bytes"
	"fmt"
	"math"
	"slices"
	"testing"

	"scrubstore/api"
	"scrubstore/disk"
	"scrubstore/pair"
	"scrubstore/scrub"
	"scrubstore/store"
)

func free() api.Record { return api.Record{Kind: api.KindFree} }

func mark(key, version int) api.Record {
	return api.Record{Kind: api.KindMark, Key: key, Version: version}
}

func data(key, version int, s string) api.Record {
	return api.Record{Kind: api.KindData, Key: key, Version: version, Data: []byte(s)}
}

func put(key int, s string) api.Deed {
	return api.Deed{Kind: api.DeedPut, Key: key, Data: []byte(s)}
}

func del(key int) api.Deed { return api.Deed{Kind: api.DeedDelete, Key: key} }

func purge(key, n int) api.Deed { return api.Deed{Kind: api.DeedPurge, Key: key, N: n} }

// sealed is b with its sum behind, written out here once more so that no test
// leans on package sum.
func sealed(b []byte) []byte {
	n := 3
	for _, x := range b {
		n = (n*131 + int(x) + 1) % 65521
	}
	return append(bytes.Clone(b), byte(n/256), byte(n%256))
}

// written is the block of r at a place.
func written(r api.Record, at int) []byte {
	b := []byte{byte(r.Kind), byte(at), byte(r.Key), byte(r.Version / 256), byte(r.Version % 256), byte(len(r.Data))}
	b = append(b, r.Data...)
	return sealed(append(b, make([]byte, 14-len(b))...))
}

// turned is the block of r at a place, one byte of which has rotted.
func turned(r api.Record, at int) []byte {
	b := written(r, at)
	b[at] ^= 129
	return b
}

// laid is a pair as it lies on a disk, how it is, and what it tells, by the
// words of chapter 4.
type laid struct {
	blocks [2][]byte
	how    int
	told   api.Record
}

// mended is l, of pair p, when it was looked at.
func (l laid) mended(p int) laid {
	if l.how == api.PairFree || l.how == api.PairBoth {
		return l
	}
	out := laid{told: l.told, how: api.PairBoth}
	if l.told.Kind == api.KindFree {
		out.how = api.PairFree
	}
	for n := range out.blocks {
		out.blocks[n] = written(l.told, 2*p+n)
	}
	return out
}

// of are the records that pairs tell; of versions there are some twice.
func of(p int) api.Record {
	return []api.Record{data(7, 3, "ab"), mark(7, 4), data(255, 60000, "12345678"), data(1, 300, ""), data(7, 3, "z"), mark(1, 1)}[p]
}

// forms are all ways in which pair p may lie, one block and the other.
func forms(p int) []laid {
	a, b := 2*p, 2*p+1
	r, q, f := of(p), data(9, 9, "other"), free()
	noughts := make([]byte, 16)
	noKind := sealed([]byte{4, byte(a), 7, 0, 1, 0, 0, 0, 0, 0, 0, 0, 0, 0})
	behind := sealed([]byte{2, byte(b), 7, 0, 1, 1, 'a', 0, 0, 'b', 0, 0, 0, 0})
	return []laid{
		{[2][]byte{written(f, a), written(f, b)}, api.PairFree, f},
		{[2][]byte{written(r, a), written(r, b)}, api.PairBoth, r},
		{[2][]byte{written(r, a), written(f, b)}, api.PairOne, r},
		{[2][]byte{written(f, a), written(r, b)}, api.PairOne, r},
		{[2][]byte{written(r, a), turned(r, b)}, api.PairOne, r},
		{[2][]byte{turned(r, a), written(r, b)}, api.PairOne, r},
		{[2][]byte{noKind, written(r, b)}, api.PairOne, r},
		{[2][]byte{written(f, a), turned(f, b)}, api.PairEmpty, f},
		{[2][]byte{turned(r, a), written(f, b)}, api.PairEmpty, f},
		{[2][]byte{turned(r, a), turned(r, b)}, api.PairLost, f},
		{[2][]byte{noughts, behind}, api.PairLost, f},
		{[2][]byte{written(r, b), written(r, a)}, api.PairLost, f}, // of other places
		{[2][]byte{written(r, a), written(q, b)}, api.PairClash, r},
	}
}

// ahead is whether a stands ahead of b in an index.
func ahead(a, b api.Entry) bool {
	switch {
	case a.Record.Key != b.Record.Key:
		return a.Record.Key < b.Record.Key
	case a.Record.Version != b.Record.Version:
		return a.Record.Version < b.Record.Version
	}
	return a.Pair < b.Pair
}

// stored is the store whose pairs lie so; its index is that of the disk.
func stored(pairs []laid, next int) api.Store {
	s := api.Store{Next: next}
	for p, l := range pairs {
		s.Disk.Blocks = append(s.Disk.Blocks, l.blocks[0], l.blocks[1])
		if l.told.Kind == api.KindFree {
			continue
		}
		e := api.Entry{Record: l.told, Pair: p}
		at := 0
		for at < len(s.Index) && ahead(s.Index[at], e) {
			at++
		}
		s.Index = slices.Insert(s.Index, at, e)
	}
	return copyOf(s)
}

// sample is a store, and how its pairs lie once its late writes have come.
type sample struct {
	s     api.Store
	pairs []laid
}

// lies are choices of how six pairs lie: each pair lies in every way, and any
// two of them in all ways that two can.
func lies() [][]laid {
	var out [][]laid
	for first := range forms(0) {
		for step := range forms(0) {
			var pairs []laid
			for p := range 6 {
				all := forms(p)
				pairs = append(pairs, all[(first+step*p)%len(all)])
			}
			out = append(out, pairs)
		}
	}
	return out
}

// samples are stores of every lie, and every pair that is next; the index of
// some is of what was there ahead of the rot.
func samples() []sample {
	var full []laid
	for p := range 6 {
		full = append(full, forms(p)[1])
	}
	var out []sample
	for i, pairs := range lies() {
		for next := range 6 {
			s := stored(pairs, next)
			if i%3 == 0 {
				s.Index = stored(full, 0).Index
			}
			out = append(out, sample{s, pairs})
		}
	}
	return out
}

// lateSamples are such stores that have late writes, of one block of each pair
// or of both, some of them written over by others.
func lateSamples() []sample {
	var out []sample
	all := lies()
	for i, pairs := range all {
		below := all[(i*7+3)%len(all)]
		s := stored(below, i%6)
		got := slices.Clone(pairs)
		for p, l := range pairs {
			switch (p + i) % 4 {
			case 0:
				s.Disk.Late = append(s.Disk.Late, api.Write{At: 2 * p, Data: l.blocks[0]}, api.Write{At: 2*p + 1, Data: l.blocks[1]})
			case 1:
				s.Disk.Late = append(s.Disk.Late, api.Write{At: 2*p + 1, Data: written(mark(3, 3), 2*p+1)}, api.Write{At: 2*p + 1, Data: l.blocks[1]})
				s.Disk.Blocks[2*p] = l.blocks[0]
			case 2:
				s.Disk.Late = append(s.Disk.Late, api.Write{At: 2 * p, Data: l.blocks[0]})
				s.Disk.Blocks[2*p+1] = l.blocks[1]
			default:
				got[p] = below[p]
			}
		}
		out = append(out, sample{copyOf(s), got})
	}
	return out
}

func everySample() []sample { return append(samples(), lateSamples()...) }

// copyOf is a deep copy, made without package store.
func copyOf(s api.Store) api.Store {
	out := api.Store{Next: s.Next}
	for _, b := range s.Disk.Blocks {
		out.Disk.Blocks = append(out.Disk.Blocks, bytes.Clone(b))
	}
	for _, w := range s.Disk.Late {
		out.Disk.Late = append(out.Disk.Late, api.Write{At: w.At, Data: bytes.Clone(w.Data)})
	}
	for _, e := range s.Index {
		e.Record.Data = bytes.Clone(e.Record.Data)
		out.Index = append(out.Index, e)
	}
	return out
}

// same is whether a and b are alike in all that they have; nil and empty lists
// are told alike.
func same(a, b any) bool { return fmt.Sprint(a) == fmt.Sprint(b) }

// counted is the report of how these pairs lie.
func counted(pairs []laid) api.Report {
	var r api.Report
	for _, l := range pairs {
		r.Count[l.how]++
	}
	return r
}

func TestOneOfEveryStore(t *testing.T) {
	for _, c := range everySample() {
		p := c.s.Next
		pairs := slices.Clone(c.pairs)
		pairs[p] = pairs[p].mended(p)
		want := stored(pairs, (p+1)%6)
		got, was := scrub.One(c.s)
		if !same(got, want) || was != c.pairs[p].how {
			t.Errorf("One(%v) is %v, %d, not %v, %d", c.s, got, was, want, c.pairs[p].how)
		}
	}
}

func TestAllOfEveryStore(t *testing.T) {
	for _, c := range everySample() {
		var pairs []laid
		for p, l := range c.pairs {
			pairs = append(pairs, l.mended(p))
		}
		want, wantCount := stored(pairs, c.s.Next), counted(c.pairs)
		if got, r := scrub.All(c.s); !same(got, want) || r != wantCount {
			t.Errorf("All(%v) is %v, %v, not %v, %v", c.s, got, r, want, wantCount)
		}
	}
}

func TestLookOfEveryDisk(t *testing.T) {
	for _, c := range everySample() {
		if got, want := scrub.Look(c.s.Disk), counted(c.pairs); got != want {
			t.Errorf("Look(%v) is %v, not %v", c.s.Disk, got, want)
		}
	}
}

func TestAllIsOneSixTimes(t *testing.T) {
	for _, c := range everySample() {
		s, count := c.s, api.Report{}
		for range 6 {
			next, was := scrub.One(s)
			count.Count[was]++
			s = next
		}
		if got, r := scrub.All(c.s); !same(got, s) || r != count {
			t.Errorf("All(%v) is %v, %v, and One six times %v, %v", c.s, got, r, s, count)
		}
	}
}

// Once is enough: behind All every pair is free, or tells its record twice, and
// nothing is left to mend.
func TestAllTwiceIsAsOnce(t *testing.T) {
	for _, c := range everySample() {
		once, _ := scrub.All(c.s)
		look := scrub.Look(once.Disk)
		if look.Count[api.PairFree]+look.Count[api.PairBoth] != 6 {
			t.Errorf("behind All(%v) pairs are %v", c.s, look)
		}
		twice, r := scrub.All(once)
		if !same(twice, once) || r != look {
			t.Errorf("All(%v) is %v, and of that it is %v, %v", c.s, once, twice, r)
		}
	}
}

// What pairs tell is told behind a scrub, and nothing else.
func TestNothingThatIsToldIsLost(t *testing.T) {
	for _, c := range everySample() {
		want := stored(c.pairs, 0).Index
		one, _ := scrub.One(c.s)
		all, _ := scrub.All(c.s)
		if !same(one.Index, want) || !same(all.Index, want) {
			t.Errorf("of %v is told %v, and behind One %v, behind All %v", c.s, want, one.Index, all.Index)
		}
		if m := store.Mount(all.Disk); !same(m.Index, want) {
			t.Errorf("behind All(%v) the disk tells %v, not %v", c.s, m.Index, want)
		}
	}
}

func TestNewStore(t *testing.T) {
	want := api.Report{Count: [6]int{api.PairFree: 6}}
	s := store.New()
	if r := scrub.Look(s.Disk); r != want {
		t.Errorf("its pairs are %v", r)
	}
	if got, r := scrub.All(s); r != want || !same(got, s) {
		t.Errorf("All is %v, %v", got, r)
	}
	for _, next := range []int{1, 2, 3, 4, 5, 0, 1} {
		got, was := scrub.One(s)
		s.Next = next
		if was != api.PairFree || !same(got, s) {
			t.Errorf("One is %v, %d, not %v, %d", got, was, s, api.PairFree)
		}
		s = got
	}
}

// done is what these deeds make of a new store.
func done(deeds ...api.Deed) api.Store {
	s := store.New()
	for _, d := range deeds {
		s, _, _ = store.Do(s, d)
	}
	return s
}

// spoilt is s with a byte of these blocks turned; its index knows nothing of
// that.
func spoilt(s api.Store, blocks ...int) api.Store {
	for _, at := range blocks {
		s.Disk = disk.Spoil(s.Disk, at, at, 1+at)
	}
	return s
}

// One pair is mended, five are free.
func TestOnePairIsMended(t *testing.T) {
	s := done(put(7, "ab"))
	got, r := scrub.All(spoilt(s, 1))
	if want := (api.Report{Count: [6]int{api.PairFree: 5, api.PairOne: 1}}); r != want {
		t.Errorf("they are %v, not %v", r, want)
	}
	if !same(got, s) {
		t.Errorf("it is %v, not %v", got, s)
	}
}

// A record whose pair is lost is in the index until a scrub, of whichever pair,
// looks at the disk.
func TestTheIndexIsThatOfTheDisk(t *testing.T) {
	s := spoilt(done(put(7, "ab"), put(9, "c")), 2, 3)
	if b, err := store.Get(s, 9); string(b) != "c" || err != api.OK {
		t.Fatalf("ahead of the scrub it is %q, %d", b, err)
	}
	for next := range 6 {
		s.Next = next
		got, _ := scrub.One(s)
		if _, err := store.Get(got, 9); err != api.ErrNone {
			t.Errorf("behind a scrub of pair %d it is %d", next, err)
		}
		if b, err := store.Get(got, 7); string(b) != "ab" || err != api.OK {
			t.Errorf("behind a scrub of pair %d the other one is %q, %d", next, b, err)
		}
	}
	got, r := scrub.All(s)
	if want := (api.Report{Count: [6]int{api.PairFree: 4, api.PairBoth: 1, api.PairLost: 1}}); r != want {
		t.Errorf("they are %v, not %v", r, want)
	}
	got, n, err := store.Do(got, put(9, "new"))
	if how, told := pair.Look(got.Disk, 1); n != 2 || err != api.OK || how != api.PairBoth || !same(told, data(9, 2, "new")) {
		t.Errorf("behind All its pair is %d, %v, by version %d, %d", how, told, n, err)
	}
}

// A pair that was lost may tell again: rot that turns the same bytes back.
func TestWhatIsBackIsInTheIndex(t *testing.T) {
	whole := done(put(7, "ab"), del(9))
	lost := store.Mount(spoilt(whole, 0, 1).Disk)
	if len(lost.Index) != 1 {
		t.Fatalf("without its pair it is %v", lost.Index)
	}
	back := spoilt(lost, 0, 1)
	back.Next = 4
	if got, was := scrub.One(back); was != api.PairFree || !same(got.Index, whole.Index) {
		t.Errorf("it is %v, %d, not %v", got.Index, was, whole.Index)
	}
}

// Whichever byte rots, and however, All makes the store what it was.
func TestEveryByteIsMended(t *testing.T) {
	s := done(put(7, "ab"), put(9, ""), del(7), put(255, "12345678"))
	s.Next = 3
	for at := range 12 {
		for n := range 16 {
			for _, by := range []int{1, 2, 64, 128, 255} {
				rotten := s
				rotten.Disk = disk.Spoil(s.Disk, at, n, by)
				var want api.Report
				want.Count = [6]int{api.PairFree: 2, api.PairBoth: 4}
				if at < 8 {
					want.Count[api.PairBoth], want.Count[api.PairOne] = 3, 1
				} else {
					want.Count[api.PairFree], want.Count[api.PairEmpty] = 1, 1
				}
				if got, r := scrub.All(rotten); r != want || !same(got, s) {
					t.Fatalf("byte %d of block %d, by %d: it is %v, %v, not %v, %v", n, at, by, got, r, s, want)
				}
			}
		}
	}
}

// Of each pair one block may rot between two rounds of the scrubber.
func TestRotIsSlowerThanTheScrubber(t *testing.T) {
	s := done(put(7, "ab"), put(9, ""), del(7), put(255, "12345678"), purge(9, 2), del(1), put(2, "x"), put(3, "y"))
	want := store.Records(s)
	for round := range 32 {
		for p := range 6 {
			s.Disk = disk.Spoil(s.Disk, 2*p+(round>>p&1), round%16, 1+round)
		}
		for range 6 {
			s, _ = scrub.One(s)
		}
		if !same(store.Records(s), want) || s.Next != 0 {
			t.Fatalf("behind round %d it is %v", round, s)
		}
	}
}

// A deed that fell with one of its writes is there; a purge that did is not
// done. Either way both blocks are alike again.
func TestADeedThatFellIsMended(t *testing.T) {
	ahead := done(put(7, "ab"))
	for _, d := range []api.Deed{put(7, "new"), del(7), purge(7, 1)} {
		begun, _, _ := store.Begin(ahead, d)
		for bits := 1; bits <= 2; bits++ {
			fallen := store.Mount(disk.Keep(begun.Disk, bits))
			got, r := scrub.All(fallen)
			if r.Count[api.PairOne] != 1 || !same(got.Index, fallen.Index) {
				t.Errorf("%v, with writes %b: it is %v, %v", d, bits, got, r)
			}
			look := scrub.Look(got.Disk)
			if look.Count[api.PairBoth] != len(got.Index) || look.Count[api.PairFree] != 6-len(got.Index) {
				t.Errorf("%v, with writes %b: pairs are %v", d, bits, look)
			}
		}
	}
}

// Late writes come to the disk with any scrub, also of a pair that needs no
// mending.
func TestLateWritesCome(t *testing.T) {
	begun, _, _ := store.Begin(done(put(7, "ab")), put(9, "c"))
	want := done(put(7, "ab"), put(9, "c"))
	for next := range 6 {
		begun.Next = next
		got, was := scrub.One(begun)
		want.Next = (next + 1) % 6
		wantWas := api.PairFree
		if next < 2 {
			wantWas = api.PairBoth
		}
		if !same(got, want) || was != wantWas {
			t.Errorf("One(%v) is %v, %d, not %v, %d", begun, got, was, want, wantWas)
		}
	}
	if r, want := scrub.Look(begun.Disk), (api.Report{Count: [6]int{api.PairFree: 4, api.PairBoth: 2}}); r != want {
		t.Errorf("with late writes pairs are %v, not %v", r, want)
	}
}

// Late writes come in turn, however many there are; those that mend come last.
func TestManyLateWritesCome(t *testing.T) {
	for _, many := range []int{59, 60, 61, 62, 63, 64, 65, 66, 130} {
		s := store.New()
		for n := range many {
			s.Disk, _ = disk.Put(s.Disk, 2, written(mark(7, n+1), 2))
		}
		s.Disk, _ = disk.Put(s.Disk, 11, written(mark(8, 500), 11))
		s.Next = 1
		got, was := scrub.One(s)
		pairs := make([]laid, 6)
		for p := range pairs {
			pairs[p] = forms(p)[0]
		}
		pairs[1] = laid{told: mark(7, many), how: api.PairOne}.mended(1)
		pairs[5] = laid{blocks: [2][]byte{written(free(), 10), written(mark(8, 500), 11)}, told: mark(8, 500)}
		if want := stored(pairs, 2); !same(got, want) || was != api.PairOne {
			t.Errorf("of %d late writes it is %v, %d, not %v", many, got, was, want)
		}
	}
}

// The first block of a clash holds, and the second one's record is gone.
func TestTheFirstOfAClashHolds(t *testing.T) {
	s := done(put(7, "ab"), put(9, "c"))
	s.Disk.Blocks[3] = written(data(5, 6, "second"), 3)
	got, r := scrub.All(s)
	if want := (api.Report{Count: [6]int{api.PairFree: 4, api.PairBoth: 1, api.PairClash: 1}}); r != want {
		t.Errorf("they are %v, not %v", r, want)
	}
	if want := done(put(7, "ab"), put(9, "c")); !same(got, want) {
		t.Errorf("it is %v, not %v", got, want)
	}
}

// A scrub leaves a version that is there twice: that is not its business.
func TestWhatIsThereTwiceStays(t *testing.T) {
	pairs := []laid{forms(0)[1], forms(1)[1], forms(2)[0], forms(3)[5], forms(4)[4], forms(5)[0]}
	s := stored(pairs, 0)
	got, _ := scrub.All(s)
	if len(got.Index) != 4 || !same(got.Index, s.Index) {
		t.Errorf("it is %v, not %v", got.Index, s.Index)
	}
}

// Look mends nothing: it tells the same each time.
func TestLookMendsNothing(t *testing.T) {
	for _, c := range everySample() {
		kept := copyOf(c.s)
		if a, b := scrub.Look(c.s.Disk), scrub.Look(c.s.Disk); a != b || !same(c.s, kept) {
			t.Errorf("of %v it is %v, then %v", kept.Disk, a, b)
		}
	}
}

// roomyBytes are b, and spare room behind them with something in it.
func roomyBytes(b []byte) []byte { return append(bytes.Clone(b), "spare"...)[:len(b)] }

// roomy is s with spare room behind every list, and something in it: blocks,
// writes and entries that would make a difference.
func roomy(s api.Store) api.Store {
	out := api.Store{Next: s.Next}
	for _, b := range s.Disk.Blocks {
		out.Disk.Blocks = append(out.Disk.Blocks, roomyBytes(b))
	}
	for _, w := range s.Disk.Late {
		out.Disk.Late = append(out.Disk.Late, api.Write{At: w.At, Data: roomyBytes(w.Data)})
	}
	for _, e := range s.Index {
		e.Record.Data = roomyBytes(e.Record.Data)
		out.Index = append(out.Index, e)
	}
	for at := range 12 {
		r := data(7, 300+at, "spare")
		out.Disk.Blocks = append(out.Disk.Blocks, written(r, at))
		out.Disk.Late = append(out.Disk.Late, api.Write{At: at, Data: written(r, at)})
		out.Index = append(out.Index, api.Entry{Record: r, Pair: at})
	}
	out.Disk.Blocks = out.Disk.Blocks[:len(s.Disk.Blocks)]
	out.Disk.Late = out.Disk.Late[:len(s.Disk.Late)]
	out.Index = out.Index[:len(s.Index)]
	return out
}

// whole is s with its spare room as part of it; its lists are those of s.
func whole(s api.Store) api.Store {
	s.Disk.Blocks = slices.Clone(s.Disk.Blocks[:cap(s.Disk.Blocks)])
	for at, b := range s.Disk.Blocks {
		s.Disk.Blocks[at] = b[:cap(b)]
	}
	s.Disk.Late = slices.Clone(s.Disk.Late[:cap(s.Disk.Late)])
	for i, w := range s.Disk.Late {
		s.Disk.Late[i].Data = w.Data[:cap(w.Data)]
	}
	s.Index = slices.Clone(s.Index[:cap(s.Index)])
	for i, e := range s.Index {
		s.Index[i].Record.Data = e.Record.Data[:cap(e.Record.Data)]
	}
	return s
}

// reached is a copy of all that can be reached from s.
func reached(s api.Store) api.Store { return copyOf(whole(s)) }

// bytesOf are all lists of bytes that s has.
func bytesOf(s api.Store) [][]byte {
	out := slices.Clone(s.Disk.Blocks)
	for _, w := range s.Disk.Late {
		out = append(out, w.Data)
	}
	for _, e := range s.Index {
		out = append(out, e.Record.Data)
	}
	return out
}

// wipe turns all that can be reached from s, spare room too.
func wipe(s api.Store) {
	for _, b := range bytesOf(whole(s)) {
		wipeBytes(b)
	}
	clear(s.Disk.Blocks[:cap(s.Disk.Blocks)])
	clear(s.Disk.Late[:cap(s.Disk.Late)])
	clear(s.Index[:cap(s.Index)])
}

func wipeBytes(b []byte) {
	b = b[:cap(b)]
	for n := range b {
		b[n] ^= 255
	}
}

type call struct {
	name string
	do   func(api.Store) (api.Store, any)
}

// calls are all of the package, the store that they answer, and what they tell
// beside it.
func calls() []call {
	return []call{
		{"One", func(s api.Store) (api.Store, any) {
			got, was := scrub.One(s)
			return got, was
		}},
		{"All", func(s api.Store) (api.Store, any) {
			got, r := scrub.All(s)
			return got, r
		}},
		{"Look", func(s api.Store) (api.Store, any) { return api.Store{}, scrub.Look(s.Disk) }},
	}
}

func TestNoCallChangesOrKeepsWhatItIsHanded(t *testing.T) {
	for _, c := range calls() {
		for _, x := range everySample() {
			want, wantTold := c.do(x.s)
			want = copyOf(want)
			given := roomy(x.s)
			room := reached(given)
			answer, told := c.do(given)
			if !same(answer, want) || told != wantTold {
				t.Errorf("%s: of %v with spare room behind it is %v, %v, not %v, %v", c.name, x.s, answer, told, want, wantTold)
			}
			if !same(reached(given), room) {
				t.Errorf("%s: what was handed in, %v, is changed", c.name, x.s)
			}
			wipe(answer)
			if !same(reached(given), room) {
				t.Errorf("%s: what was handed in, %v, changed with the answer", c.name, x.s)
			}
			answer, _ = c.do(given)
			wipe(given)
			if !same(answer, want) {
				t.Errorf("%s: the answer of %v changed with what was handed in", c.name, x.s)
			}
		}
	}
}

// A record that is mended stands in two blocks, and in the index, but in no
// memory twice.
func TestListsOfAnAnswerShareNoMemory(t *testing.T) {
	for _, c := range calls() {
		for _, x := range everySample() {
			answer, _ := c.do(x.s)
			lists := bytesOf(answer)
			for i, b := range lists {
				kept := slices.Clone(lists)
				for n := range kept {
					kept[n] = bytes.Clone(kept[n])
				}
				wipeBytes(b)
				kept[i] = bytes.Clone(b)
				if !slices.EqualFunc(lists, kept, bytes.Equal) {
					t.Errorf("%s: of %v list %d shares memory with another one", c.name, x.s, i)
				}
			}
		}
	}
}

func TestNilAndEmptyAreTheSame(t *testing.T) {
	empty := store.New()
	empty.Disk.Late, empty.Index = []api.Write{}, []api.Entry{}
	bare := store.New()
	bare.Disk.Late, bare.Index = nil, nil
	nothing := api.Store{Disk: api.Disk{Blocks: [][]byte{}, Late: []api.Write{}}, Index: []api.Entry{}}
	for _, c := range calls() {
		for _, x := range [][2]api.Store{{bare, empty}, {{}, nothing}} {
			a, told := c.do(x[0])
			b, toldToo := c.do(x[1])
			if !same(a, b) || told != toldToo {
				t.Errorf("%s: with nil lists it is %v, %v, with empty ones %v, %v", c.name, a, told, b, toldToo)
			}
		}
	}
}

// Where there is no pair that is next, none is changed: it counts as lost, as
// chapter 4 has it, and the first one is next.
func TestNextThatIsNoPair(t *testing.T) {
	for _, next := range []int{-1, -2, -6, 6, 7, 12, 1 << 62, 1<<63 - 6, math.MinInt, math.MinInt + 5, math.MaxInt} {
		for _, c := range lateSamples() {
			c.s.Next = next
			got, was := scrub.One(c.s)
			if want := stored(c.pairs, 0); !same(got, want) || was != api.PairLost {
				t.Errorf("One(%v) is %v, %d, not %v", c.s, got, was, want)
			}
			all, r := scrub.All(c.s)
			sum := 0
			for _, n := range r.Count {
				sum += n
			}
			if sum != 6 || all.Next != 5 {
				t.Errorf("All(%v) counts %v, and pair %d is next", c.s, r, all.Next)
			}
		}
	}
}

// The document says nothing of what is no store, or no disk; a call must still
// end without a panic, and leave what it is handed.
func TestWhatIsNoStore(t *testing.T) {
	short := done(put(7, "ab"))
	short.Disk.Blocks = short.Disk.Blocks[:1]
	long := done(put(7, "ab"))
	long.Disk.Blocks = append(long.Disk.Blocks, long.Disk.Blocks...)
	strange := done(put(7, "ab"))
	strange.Disk.Blocks[3], strange.Disk.Blocks[4] = nil, make([]byte, 99)
	strange.Disk.Late = []api.Write{{}, {At: -1}, {At: 12, Data: []byte{1}}, {At: math.MaxInt}, {At: 7, Data: []byte("7")}}
	strange.Index = []api.Entry{{Pair: -1}, {Record: mark(math.MinInt, math.MaxInt), Pair: math.MaxInt}}
	for i, s := range []api.Store{{}, {Next: -1}, short, long, strange} {
		for next := range 6 {
			s.Next += next
			kept := copyOf(s)
			for _, c := range calls() {
				c.do(s)
				if !same(s, kept) {
					t.Errorf("%d: %s changed what was handed in", i, c.name)
				}
			}
		}
	}
	if r, want := scrub.Look(api.Disk{}), (api.Report{Count: [6]int{api.PairLost: 6}}); r != want {
		t.Errorf("of no blocks pairs are %v", r)
	}
	if r, want := scrub.Look(short.Disk), (api.Report{Count: [6]int{api.PairOne: 1, api.PairLost: 5}}); r != want {
		t.Errorf("of one block pairs are %v", r)
	}
}
