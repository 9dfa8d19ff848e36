package disk_test

import (
	"bytes"
	"math"
	"testing"

	"scrubstore/api"
	"scrubstore/block"
	"scrubstore/disk"
)

// fill is a block of one byte, all over.
func fill(x byte) []byte { return bytes.Repeat([]byte{x}, api.BlockSize) }

// freeBlock is written out here once more, sum and all, so that no test of New
// leans on package block alone.
func freeBlock(at int) []byte {
	b := make([]byte, 14)
	b[0], b[1] = 1, byte(at)
	n := 3
	for _, x := range b {
		n = (n*131 + int(x) + 1) % 65521
	}
	return append(b, byte(n/256), byte(n%256))
}

// mixed is a disk no two blocks of which are alike, without late writes.
func mixed() api.Disk {
	var d api.Disk
	for at := range api.MaxBlocks {
		b := make([]byte, api.BlockSize)
		for n := range b {
			b[n] = byte(at*16 + n)
		}
		d.Blocks = append(d.Blocks, b)
	}
	return d
}

// late is a mixed disk with late writes to these blocks, in turn: the first
// one of the byte 200 all over, the next one of 201, and so on.
func late(places ...int) api.Disk {
	d := mixed()
	for i, at := range places {
		d.Late = append(d.Late, api.Write{At: at, Data: fill(byte(200 + i))})
	}
	return d
}

// disks are disks of many shapes: fresh, written, late, and very late ones.
func disks() []api.Disk {
	var everywhere, many []int
	for at := range api.MaxBlocks {
		everywhere = append(everywhere, at)
	}
	for i := range 70 {
		many = append(many, i*5%api.MaxBlocks)
	}
	return []api.Disk{
		disk.New(), mixed(),
		{Blocks: mixed().Blocks, Late: []api.Write{}},
		late(0), late(11), late(3, 4, 3, 5), late(7, 7, 7), late(everywhere...), late(many...),
	}
}

// copyOf is a deep copy, made without package disk.
func copyOf(d api.Disk) api.Disk {
	var out api.Disk
	for _, b := range d.Blocks {
		out.Blocks = append(out.Blocks, bytes.Clone(b))
	}
	for _, w := range d.Late {
		out.Late = append(out.Late, api.Write{At: w.At, Data: bytes.Clone(w.Data)})
	}
	return out
}

func same(a, b api.Disk) bool {
	if len(a.Blocks) != len(b.Blocks) || len(a.Late) != len(b.Late) {
		return false
	}
	for at := range a.Blocks {
		if !bytes.Equal(a.Blocks[at], b.Blocks[at]) {
			return false
		}
	}
	for i, w := range a.Late {
		if w.At != b.Late[i].At || !bytes.Equal(w.Data, b.Late[i].Data) {
			return false
		}
	}
	return true
}

// wipe turns every byte that can be reached from d, spare room too.
func wipe(d api.Disk) {
	blocks, writes := d.Blocks[:cap(d.Blocks)], d.Late[:cap(d.Late)]
	for at := range blocks {
		wipeBytes(blocks[at])
		blocks[at] = nil
	}
	for i := range writes {
		wipeBytes(writes[i].Data)
		writes[i] = api.Write{At: -7}
	}
}

func wipeBytes(b []byte) {
	b = b[:cap(b)]
	for n := range b {
		b[n] ^= 255
	}
}

// roomy is d with spare room behind every list, and something in it.
func roomy(d api.Disk) api.Disk {
	var blocks [][]byte
	for _, b := range d.Blocks {
		blocks = append(blocks, append(bytes.Clone(b), "spare"...)[:len(b)])
	}
	blocks = append(blocks, fill('s'), fill('t'))
	var writes []api.Write
	for _, w := range d.Late {
		writes = append(writes, api.Write{At: w.At, Data: append(bytes.Clone(w.Data), "spare"...)[:len(w.Data)]})
	}
	writes = append(writes, api.Write{At: 1, Data: fill('u')}, api.Write{At: 2, Data: fill('v')})
	return api.Disk{Blocks: blocks[:len(d.Blocks)], Late: writes[:len(d.Late)]}
}

// noPlaces are numbers of no block.
func noPlaces() []int {
	return []int{-1, -2, -12, 12, 13, 255, 256, 268, 1 << 32, -(1 << 32), math.MinInt, math.MaxInt}
}

func TestNewHasFreeBlocksOfTheirPlaces(t *testing.T) {
	d := disk.New()
	if len(d.Blocks) != 12 || len(d.Late) != 0 {
		t.Fatalf("New has %d blocks, and %d late writes", len(d.Blocks), len(d.Late))
	}
	for at, b := range d.Blocks {
		if want := freeBlock(at); !bytes.Equal(b, want) {
			t.Errorf("block %d is %v, not %v", at, b, want)
		}
		r, err := block.Read(b, at)
		if err != api.OK || !block.Same(r, api.Record{Kind: api.KindFree}) {
			t.Errorf("block %d is read as %v, %d", at, r, err)
		}
	}
}

func TestNewIsNewEachTime(t *testing.T) {
	wipe(disk.New())
	d := disk.New()
	for at := range api.MaxBlocks {
		if !bytes.Equal(d.Blocks[at], freeBlock(at)) {
			t.Fatalf("block %d of New hangs on what was done to an earlier one", at)
		}
	}
	d.Blocks[0][0] ^= 1
	if !bytes.Equal(d.Blocks[1], freeBlock(1)) {
		t.Error("two blocks of New share memory")
	}
}

func TestOwnIsACopy(t *testing.T) {
	for i, d := range disks() {
		kept := copyOf(d)
		own := disk.Own(d)
		if !same(own, kept) {
			t.Errorf("disk %d: Own is %v, not %v", i, own, kept)
		}
		wipe(d)
		if !same(own, kept) {
			t.Errorf("disk %d: the copy changed with what Own was handed", i)
		}
	}
}

func TestOwnPartsMemoryThatIsShared(t *testing.T) {
	one := fill(9)
	d := mixed()
	d.Blocks[2], d.Blocks[3] = one, one
	d.Late = []api.Write{{At: 2, Data: one}, {At: 4, Data: one}}
	own := disk.Own(d)
	own.Blocks[2][0], own.Late[0].Data[1] = 1, 1
	if !bytes.Equal(own.Blocks[3], fill(9)) || !bytes.Equal(own.Late[1].Data, fill(9)) || !bytes.Equal(one, fill(9)) {
		t.Error("lists of a copy share memory")
	}
}

func TestPutIsTheLastOfLate(t *testing.T) {
	for i, d := range disks() {
		for at := range api.MaxBlocks {
			want := copyOf(d)
			want.Late = append(want.Late, api.Write{At: at, Data: fill('p')})
			got, err := disk.Put(d, at, fill('p'))
			if err != api.OK || !same(got, want) {
				t.Errorf("disk %d: Put at %d is %v, %d, not %v", i, at, got, err, want)
			}
		}
	}
}

func TestPutsStandInTurn(t *testing.T) {
	d := mixed()
	places := []int{3, 4, 3, 0, 11, 3}
	for i, at := range places {
		var err api.Errno
		if d, err = disk.Put(d, at, fill(byte(200+i))); err != api.OK {
			t.Fatalf("Put at %d is %d", at, err)
		}
	}
	if want := late(places...); !same(d, want) {
		t.Errorf("the disk is %v, not %v", d, want)
	}
}

// Whatever bytes are put: a disk does not ask what a block tells.
func TestPutOfAnyBytes(t *testing.T) {
	for _, b := range [][]byte{make([]byte, 16), fill(255), freeBlock(6), []byte("no block at all!")} {
		d, err := disk.Put(mixed(), 5, b)
		if err != api.OK || !bytes.Equal(d.Late[0].Data, b) {
			t.Errorf("Put of %v is %v, %d", b, d.Late, err)
		}
	}
}

func TestPutWhereNoBlockIs(t *testing.T) {
	for i, d := range disks() {
		for _, at := range noPlaces() {
			for _, b := range [][]byte{fill('p'), fill('p')[:15], nil} {
				if got, err := disk.Put(d, at, b); err != api.ErrRange || !same(got, d) {
					t.Errorf("disk %d: Put at %d of %d bytes is %v, %d", i, at, len(b), got, err)
				}
			}
		}
	}
}

func TestPutOfAnotherSize(t *testing.T) {
	for i, d := range disks() {
		for n := range 40 {
			if n == 16 {
				continue
			}
			b := bytes.Repeat([]byte{'p'}, 40)[:n]
			for _, at := range []int{0, 5, 11} {
				if got, err := disk.Put(d, at, b); err != api.ErrForm || !same(got, d) {
					t.Errorf("disk %d: Put at %d of %d bytes is %v, %d", i, at, n, got, err)
				}
			}
		}
		if got, err := disk.Put(d, 0, nil); err != api.ErrForm || !same(got, d) {
			t.Errorf("disk %d: Put of nil is %v, %d", i, got, err)
		}
	}
}

func TestPutOwnsItsBytes(t *testing.T) {
	room := []byte("0123456789abcdefspare")
	kept := bytes.Clone(room)
	d, err := disk.Put(mixed(), 5, room[:16])
	if err != api.OK || !bytes.Equal(room, kept) {
		t.Fatalf("Put answers %d, and makes %q of %q", err, room, kept)
	}
	clear(room)
	if got := d.Late[0].Data; !bytes.Equal(got, kept[:16]) {
		t.Errorf("the write changed with the bytes that were handed in: %q", got)
	}
	copy(room, kept)
	wipe(d)
	if !bytes.Equal(room, kept) {
		t.Errorf("the bytes that were handed in changed with the write: %q", room)
	}
}

// Two puts to one disk: neither may stand in spare room that both reach.
func TestPutTwiceToOneDisk(t *testing.T) {
	d, _ := disk.Put(mixed(), 1, fill('a'))
	d, _ = disk.Put(d, 2, fill('b'))
	d, _ = disk.Put(d, 3, fill('c'))
	one, _ := disk.Put(d, 4, fill('d'))
	two, _ := disk.Put(d, 5, fill('e'))
	if w := one.Late[3]; w.At != 4 || !bytes.Equal(w.Data, fill('d')) {
		t.Errorf("the first of two puts became %v", w)
	}
	if w := two.Late[3]; w.At != 5 || !bytes.Equal(w.Data, fill('e')) {
		t.Errorf("the second of two puts is %v", w)
	}
}

func TestGetTellsWhatIsLast(t *testing.T) {
	for i, d := range disks() {
		for at := range api.MaxBlocks {
			want := d.Blocks[at]
			for _, w := range d.Late {
				if w.At == at {
					want = w.Data
				}
			}
			if got, err := disk.Get(d, at); err != api.OK || !bytes.Equal(got, want) {
				t.Errorf("disk %d: Get of %d is %v, %d, not %v", i, at, got, err, want)
			}
		}
	}
}

func TestGetKnownBlocks(t *testing.T) {
	d := late(3, 4, 3, 5)
	for _, c := range []struct {
		at   int
		want []byte
	}{
		{3, fill(202)}, {4, fill(201)}, {5, fill(203)}, {6, mixed().Blocks[6]}, {0, mixed().Blocks[0]}, {11, mixed().Blocks[11]},
	} {
		if got, err := disk.Get(d, c.at); err != api.OK || !bytes.Equal(got, c.want) {
			t.Errorf("Get of %d is %v, %d, not %v", c.at, got, err, c.want)
		}
	}
}

func TestGetWhereNoBlockIs(t *testing.T) {
	for i, d := range disks() {
		for _, at := range noPlaces() {
			if got, err := disk.Get(d, at); err != api.ErrRange || len(got) != 0 {
				t.Errorf("disk %d: Get of %d is %v, %d", i, at, got, err)
			}
		}
	}
}

func TestGetAnswersNewMemory(t *testing.T) {
	d := roomy(late(3))
	kept := copyOf(d)
	for _, at := range []int{3, 4} {
		b, _ := disk.Get(d, at)
		told := bytes.Clone(b)
		wipeBytes(b)
		if !same(d, kept) {
			t.Errorf("the disk changed with what Get of %d answered", at)
		}
		if again, _ := disk.Get(d, at); !bytes.Equal(again, told) {
			t.Errorf("Get of %d is %v, then %v", at, told, again)
		}
	}
	early, _ := disk.Get(d, 4)
	overtaken, _ := disk.Get(d, 3)
	wipe(d)
	if !bytes.Equal(early, kept.Blocks[4]) || !bytes.Equal(overtaken, kept.Late[0].Data) {
		t.Error("what Get answered changed with the disk")
	}
}

func TestPutAndThenGet(t *testing.T) {
	for i, d := range disks() {
		for at := range api.MaxBlocks {
			put, _ := disk.Put(d, at, fill('p'))
			for other := range api.MaxBlocks {
				want, _ := disk.Get(d, other)
				if other == at {
					want = fill('p')
				}
				if got, err := disk.Get(put, other); err != api.OK || !bytes.Equal(got, want) {
					t.Errorf("disk %d: behind a put at %d, Get of %d is %v, %d", i, at, other, got, err)
				}
			}
		}
	}
}

// keep works out what Keep must answer, by sets of numbers of writes.
func keep(d api.Disk, come func(int) bool) api.Disk {
	want := api.Disk{Blocks: copyOf(d).Blocks}
	for i, w := range d.Late {
		if come(i) {
			want.Blocks[w.At] = bytes.Clone(w.Data)
		}
	}
	return want
}

// bit tells bit i of a number, without a shift of it.
func bit(bits uint64, i int) bool {
	for range i {
		bits /= 2
	}
	return bits%2 == 1
}

func TestKeepOfFewWrites(t *testing.T) {
	for _, places := range [][]int{{}, {0}, {11}, {3, 4, 3, 5}, {7, 7, 7, 7}, {5, 4, 3, 2}, {0, 11, 0, 11}} {
		d := late(places...)
		for bits := range 64 {
			want := keep(d, func(i int) bool { return bit(uint64(bits), i) })
			if got := disk.Keep(d, bits); !same(got, want) {
				t.Errorf("of writes to %v, Keep of %b is %v, not %v", places, bits, got, want)
			}
		}
	}
}

func TestKeepKnownBlocks(t *testing.T) {
	d := late(3, 4, 3, 5)
	old := mixed().Blocks
	for _, c := range []struct {
		bits               int
		three, four, fifth []byte
	}{
		{0, old[3], old[4], old[5]},
		{1, fill(200), old[4], old[5]},
		{2, old[3], fill(201), old[5]},
		{4, fill(202), old[4], old[5]},
		{5, fill(202), old[4], old[5]},
		{8, old[3], old[4], fill(203)},
		{15, fill(202), fill(201), fill(203)},
		{16, old[3], old[4], old[5]},
		{-1, fill(202), fill(201), fill(203)},
		{-2, fill(202), fill(201), fill(203)},
		{-8, old[3], old[4], fill(203)},
		{math.MinInt, old[3], old[4], old[5]},
		{math.MaxInt, fill(202), fill(201), fill(203)},
	} {
		k := disk.Keep(d, c.bits)
		if !bytes.Equal(k.Blocks[3], c.three) || !bytes.Equal(k.Blocks[4], c.four) || !bytes.Equal(k.Blocks[5], c.fifth) || len(k.Late) != 0 {
			t.Errorf("Keep of %d is %v", c.bits, k)
		}
	}
}

// The first sixty writes have bits; those behind are lost, whatever bits there are.
func TestKeepOfManyWrites(t *testing.T) {
	for _, n := range []int{59, 60, 61, 63, 64, 65, 70, 130} {
		for step := 1; step <= 12; step++ {
			var places []int
			for i := range n {
				places = append(places, i*step%api.MaxBlocks)
			}
			d := late(places...)
			for _, bits := range []int{0, 1, -1, 1 << 58, 1 << 59, 1 << 60, 1 << 61, 1 << 62, math.MinInt, math.MaxInt, 0x0f0f0f0f0f0f0f0f, 0x5555555555555555} {
				want := keep(d, func(i int) bool { return i < 60 && bit(uint64(bits), i) })
				if got := disk.Keep(d, bits); !same(got, want) {
					t.Errorf("of %d writes, Keep of %b is %v, not %v", n, bits, got, want)
				}
			}
		}
	}
}

func TestFlushIsAllOfThem(t *testing.T) {
	for i, d := range disks() {
		want := keep(d, func(int) bool { return true })
		got := disk.Flush(d)
		if !same(got, want) {
			t.Errorf("disk %d: Flush is %v, not %v", i, got, want)
		}
		for at := range api.MaxBlocks {
			before, _ := disk.Get(d, at)
			if after, err := disk.Get(got, at); err != api.OK || !bytes.Equal(after, before) {
				t.Errorf("disk %d: Get of %d is %v, and when flushed %v", i, at, before, after)
			}
		}
		if again := disk.Flush(got); !same(again, got) {
			t.Errorf("disk %d: flushed twice it is other than once", i)
		}
	}
}

func TestFlushOfMoreThanSixty(t *testing.T) {
	var places []int
	for range 60 {
		places = append(places, 1)
	}
	d := late(append(places, 2, 3)...)
	flushed, kept := disk.Flush(d), disk.Keep(d, -1)
	if !bytes.Equal(flushed.Blocks[2], d.Late[60].Data) || !bytes.Equal(flushed.Blocks[3], d.Late[61].Data) {
		t.Errorf("writes behind the sixtieth are not flushed: %v", flushed)
	}
	if !bytes.Equal(kept.Blocks[2], d.Blocks[2]) || !bytes.Equal(kept.Blocks[3], d.Blocks[3]) {
		t.Errorf("writes behind the sixtieth are kept: %v", kept)
	}
	if !bytes.Equal(kept.Blocks[1], d.Late[59].Data) {
		t.Errorf("the sixtieth write is not kept: %v", kept.Blocks[1])
	}
}

func TestSpoilTurnsOneByte(t *testing.T) {
	for i, d := range disks() {
		for at := range api.MaxBlocks {
			for n := range api.BlockSize {
				for _, by := range []int{1, 7, 128, 255} {
					want := copyOf(d)
					want.Blocks[at][n] ^= byte(by)
					got := disk.Spoil(d, at, n, by)
					if !same(got, want) {
						t.Fatalf("disk %d: Spoil of byte %d of %d by %d is %v, not %v", i, n, at, by, got, want)
					}
					if back := disk.Spoil(got, at, n, by); !same(back, d) {
						t.Fatalf("disk %d: byte %d of %d, turned twice by %d, is not as it was", i, n, at, by)
					}
				}
			}
		}
	}
}

func TestSpoilTakesTheLowestEightBits(t *testing.T) {
	d := mixed()
	d.Blocks[3] = fill('c')
	for _, c := range []struct {
		by   int
		want byte
	}{
		{0, 'c'}, {7, 100}, {255, 156}, {256, 'c'}, {257, 98}, {263, 100}, {511, 156}, {512, 'c'}, {-1, 156}, {-256, 'c'}, {-255, 98},
		{math.MinInt, 'c'}, {math.MinInt + 7, 100}, {math.MaxInt, 156},
	} {
		want := fill('c')
		want[2] = c.want
		if got := disk.Spoil(d, 3, 2, c.by).Blocks[3]; !bytes.Equal(got, want) {
			t.Errorf("Spoil by %d is %v, not %v", c.by, got, want)
		}
	}
}

func TestSpoilWhereNothingIs(t *testing.T) {
	for i, d := range disks() {
		for _, at := range noPlaces() {
			for _, n := range []int{0, 15, 16, -1} {
				if got := disk.Spoil(d, at, n, 7); !same(got, d) {
					t.Errorf("disk %d: Spoil of byte %d of %d is %v", i, n, at, got)
				}
			}
		}
		for _, n := range []int{-1, -16, 16, 17, 32, 256, 1 << 32, math.MinInt, math.MaxInt} {
			for _, at := range []int{0, 5, 11} {
				if got := disk.Spoil(d, at, n, 7); !same(got, d) {
					t.Errorf("disk %d: Spoil of byte %d of %d is %v", i, n, at, got)
				}
			}
		}
	}
	if got := disk.Spoil(roomy(mixed()), 3, 16, 7); !same(got, mixed()) {
		t.Errorf("Spoil of a byte of spare room is %v", got)
	}
}

// A late write hides what rots beneath it, until it is lost.
func TestSpoilBeneathALateWrite(t *testing.T) {
	d := disk.Spoil(late(3), 3, 2, 7)
	if got, _ := disk.Get(d, 3); !bytes.Equal(got, fill(200)) {
		t.Errorf("Get tells %v, not the late write", got)
	}
	if got := disk.Flush(d).Blocks[3]; !bytes.Equal(got, fill(200)) {
		t.Errorf("the late write comes to the disk as %v", got)
	}
	want := mixed().Blocks[3]
	want[2] ^= 7
	if got := disk.Keep(d, 0).Blocks[3]; !bytes.Equal(got, want) {
		t.Errorf("without the late write the block is %v, not %v", got, want)
	}
}

type change struct {
	name string
	do   func(api.Disk) api.Disk
}

// changes are all calls that make a disk of a disk.
func changes() []change {
	put := func(at int, b []byte) func(api.Disk) api.Disk {
		return func(d api.Disk) api.Disk {
			out, _ := disk.Put(d, at, b)
			return out
		}
	}
	return []change{
		{"Own", disk.Own},
		{"Put", put(5, fill('p'))},
		{"Put where no block is", put(12, fill('p'))},
		{"Put of 15 bytes", put(5, fill('p')[:15])},
		{"Keep of none", func(d api.Disk) api.Disk { return disk.Keep(d, 0) }},
		{"Keep of some", func(d api.Disk) api.Disk { return disk.Keep(d, 0x5a5a) }},
		{"Flush", disk.Flush},
		{"Spoil", func(d api.Disk) api.Disk { return disk.Spoil(d, 5, 2, 7) }},
		{"Spoil of nothing", func(d api.Disk) api.Disk { return disk.Spoil(d, 5, 16, 7) }},
	}
}

func TestNoCallChangesOrKeepsWhatItIsHanded(t *testing.T) {
	for _, c := range changes() {
		for i, plain := range disks() {
			want := copyOf(c.do(plain))
			given := roomy(plain)
			kept := copyOf(given)
			room := copyOf(api.Disk{Blocks: given.Blocks[:cap(given.Blocks)], Late: given.Late[:cap(given.Late)]})

			got := c.do(given)
			if !same(got, want) {
				t.Errorf("%s, disk %d: with spare room behind its lists it is %v, not %v", c.name, i, got, want)
			}
			reached := api.Disk{Blocks: given.Blocks[:cap(given.Blocks)], Late: given.Late[:cap(given.Late)]}
			if !same(given, kept) || !same(reached, room) {
				t.Errorf("%s, disk %d: what was handed in is changed", c.name, i)
			}
			wipe(got)
			if !same(given, kept) || !same(reached, room) {
				t.Errorf("%s, disk %d: what was handed in changed with the answer", c.name, i)
			}
			got = c.do(given)
			wipe(given)
			if !same(got, want) {
				t.Errorf("%s, disk %d: the answer changed with what was handed in", c.name, i)
			}
		}
	}
}

func TestListsOfAnAnswerShareNoMemory(t *testing.T) {
	for _, c := range changes() {
		d := c.do(late(3, 4, 3, 5))
		var lists [][]byte
		lists = append(lists, d.Blocks...)
		for _, w := range d.Late {
			lists = append(lists, w.Data)
		}
		for i, b := range lists {
			before := copyOf(api.Disk{Blocks: lists})
			wipeBytes(b)
			wipeBytes(before.Blocks[i][:len(b)])
			if !same(before, api.Disk{Blocks: lists}) {
				t.Errorf("%s: list %d shares memory with another one", c.name, i)
			}
		}
	}
}

// The document says nothing of what is no disk; a call must still end without
// a panic, and find no block where there is none.
func TestWhatIsNoDisk(t *testing.T) {
	for i, d := range []api.Disk{
		{},
		{Blocks: mixed().Blocks[:3], Late: late(2, 3, 11).Late},
		{Blocks: make([][]byte, api.MaxBlocks)},
		{Blocks: [][]byte{nil, {1}, fill(2)}, Late: []api.Write{{}, {At: 1, Data: []byte{1}}}},
		{Blocks: mixed().Blocks, Late: []api.Write{{At: -1, Data: fill(1)}, {At: 12, Data: fill(2)}, {At: math.MinInt}, {At: math.MaxInt}}},
	} {
		kept := copyOf(d)
		for _, c := range changes() {
			if got := c.do(d); len(got.Blocks) != len(d.Blocks) {
				t.Errorf("%d: %s makes %d blocks of %d", i, c.name, len(got.Blocks), len(d.Blocks))
			}
		}
		for _, at := range append(noPlaces(), len(d.Blocks)) {
			if got, err := disk.Get(d, at); err != api.ErrRange || len(got) != 0 {
				t.Errorf("%d: Get of %d is %v, %d", i, at, got, err)
			}
			if got, err := disk.Put(d, at, fill('p')); err != api.ErrRange || !same(got, d) {
				t.Errorf("%d: Put at %d is %v, %d", i, at, got, err)
			}
			if got := disk.Spoil(d, at, 0, 7); !same(got, d) {
				t.Errorf("%d: Spoil of %d is %v", i, at, got)
			}
		}
		if !same(d, kept) {
			t.Errorf("%d: it is changed", i)
		}
	}
}
