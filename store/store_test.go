package store_test

import (
	"bytes"
	"fmt"
	"math"
	"slices"
	"testing"

	"scrubstore/api"
	"scrubstore/disk"
	"scrubstore/model"
	"scrubstore/store"
)

func free() api.Record { return api.Record{Kind: api.KindFree} }

func mark(key, version int) api.Record {
	return api.Record{Kind: api.KindMark, Key: key, Version: version}
}

func data(key, version int, s string) api.Record {
	return api.Record{Kind: api.KindData, Key: key, Version: version, Data: []byte(s)}
}

func put(key int, s string) api.Deed {
	return api.Deed{Kind: api.DeedPut, Key: key, Data: []byte(s)}
}

func del(key int) api.Deed { return api.Deed{Kind: api.DeedDelete, Key: key} }

func purge(key, n int) api.Deed { return api.Deed{Kind: api.DeedPurge, Key: key, N: n} }

// written is the block of r at a place, with its sum, written out here once
// more so that no test leans on package block.
func written(r api.Record, at int) []byte {
	b := []byte{byte(r.Kind), byte(at), byte(r.Key), byte(r.Version / 256), byte(r.Version % 256), byte(len(r.Data))}
	b = append(b, r.Data...)
	b = append(b, make([]byte, 14-len(b))...)
	n := 3
	for _, x := range b {
		n = (n*131 + int(x) + 1) % 65521
	}
	return append(b, byte(n/256), byte(n%256))
}

// late are the two writes of r to pair p.
func late(p int, r api.Record) []api.Write {
	return []api.Write{{At: 2 * p, Data: written(r, 2*p)}, {At: 2*p + 1, Data: written(r, 2*p+1)}}
}

// ahead is whether a stands ahead of b in an index.
func ahead(a, b api.Entry) bool {
	switch {
	case a.Record.Key != b.Record.Key:
		return a.Record.Key < b.Record.Key
	case a.Record.Version != b.Record.Version:
		return a.Record.Version < b.Record.Version
	}
	return a.Pair < b.Pair
}

// with is the index l with e at its place.
func with(l []api.Entry, e api.Entry) []api.Entry {
	at := 0
	for at < len(l) && ahead(l[at], e) {
		at++
	}
	return slices.Insert(slices.Clone(l), at, e)
}

// holding is the store whose pairs tell these records, twice; those of kind 0,
// and those behind, are free.
func holding(records ...api.Record) api.Store {
	var s api.Store
	for p := range 6 {
		r := free()
		if p < len(records) && records[p].Kind != 0 {
			r = records[p]
			s.Index = with(s.Index, api.Entry{Record: r, Pair: p})
		}
		s.Disk.Blocks = append(s.Disk.Blocks, written(r, 2*p), written(r, 2*p+1))
	}
	return copyOf(s)
}

// six are records of six pairs: of one key there are several, of one version
// too, even of one key.
func six() []api.Record {
	return []api.Record{
		data(7, 2, "x"), mark(8, 9), data(7, 2, "aa"), data(255, 12, "12345678"), mark(7, 2), data(8, 3, ""),
	}
}

// rotten is s with a byte of these blocks turned; its index knows nothing of
// that.
func rotten(s api.Store, blocks ...int) api.Store {
	s = copyOf(s)
	for _, at := range blocks {
		s.Disk.Blocks[at][3+at] ^= 129
	}
	return s
}

// stores are those of all choices of the six records, and others: with one and
// two versions of a key, with blocks that have rotted, with late writes, and
// with another pair to look at next.
func stores() []api.Store {
	var out []api.Store
	for bits := range 1 << 6 {
		records := make([]api.Record, 6)
		for p, r := range six() {
			if bits>>p&1 == 1 {
				records[p] = r
			}
		}
		out = append(out, holding(records...))
	}
	some := holding(api.Record{}, data(7, 1, "ab"), mark(7, 3), api.Record{}, data(1, 2, ""), data(9, 4, "q"))
	some.Next = 5
	begun := copyOf(some)
	begun.Disk.Late = append(late(0, data(9, 5, "z")), late(5, free())...)
	begun.Index = with(begun.Index, api.Entry{Record: data(9, 5, "z")})
	begun.Index = slices.DeleteFunc(begun.Index, func(e api.Entry) bool { return e.Pair == 5 })
	return append(out, some, begun,
		rotten(some, 2), rotten(some, 2, 3), rotten(some, 0, 1, 2, 3, 4, 5, 6, 7, 8, 9, 10, 11),
		holding(data(1, 59999, "a")), holding(api.Record{}, mark(1, 60000), data(7, 2, "b")),
		holding(mark(1, 60000), mark(1, 1), mark(1, 2), mark(1, 3), mark(1, 4), mark(1, 5)),
	)
}

// allRecords are those that blocks of the stores tell.
func allRecords() []api.Record {
	return append(six(), data(7, 1, "ab"), mark(7, 3), data(1, 2, ""), data(9, 4, "q"), data(1, 59999, "a"), mark(1, 60000), data(7, 2, "b"),
		mark(1, 1), mark(1, 2), mark(1, 3), mark(1, 4), mark(1, 5))
}

// deeds are right ones, at the edges of every limit, and of what the stores
// have.
func deeds() []api.Deed {
	out := []api.Deed{
		{Kind: api.DeedPut, Key: 7}, {Kind: api.DeedPurge, Key: 7, N: 2, Data: []byte{}},
		put(7, "\x00"), put(8, "12345678"), put(9, "\xff\xff\xff\xff\xff\xff\xff\xff"),
	}
	for _, key := range []int{1, 6, 7, 8, 9, 254, 255} {
		out = append(out, put(key, ""), put(key, "ab"), del(key))
		for _, n := range []int{1, 2, 3, 4, 5, 9, 12, 256, 59999, 60000} {
			out = append(out, purge(key, n))
		}
	}
	return out
}

type wrong struct {
	d    api.Deed
	want api.Errno
}

// wrongs are deeds that are not right; of some of them several errors fit.
func wrongs() []wrong {
	nine := []byte("123456789")
	var out []wrong
	for _, kind := range []int{0, -1, 4, 257, 1<<32 + 1, math.MinInt, math.MaxInt} {
		out = append(out, wrong{api.Deed{Kind: kind, Key: 7}, api.ErrKind}, wrong{api.Deed{Kind: kind, Key: 256, N: -1, Data: nine}, api.ErrKind})
	}
	for _, key := range []int{0, -1, 256, 263, 1<<32 + 7, math.MinInt, math.MaxInt} {
		out = append(out, wrong{put(key, "a"), api.ErrRange}, wrong{del(key), api.ErrRange}, wrong{purge(key, 2), api.ErrRange}, wrong{put(key, string(nine)), api.ErrRange})
	}
	for _, n := range []int{0, -1, 60001, 65538, math.MinInt, math.MaxInt} {
		out = append(out, wrong{purge(7, n), api.ErrRange})
	}
	for _, n := range []int{1, -1, 2, math.MinInt, math.MaxInt} {
		out = append(out, wrong{api.Deed{Kind: api.DeedPut, Key: 7, N: n}, api.ErrRange}, wrong{api.Deed{Kind: api.DeedDelete, Key: 7, N: n, Data: nine}, api.ErrRange})
	}
	return append(out,
		wrong{put(7, string(nine)), api.ErrMuch},
		wrong{api.Deed{Kind: api.DeedPut, Key: 7, Data: make([]byte, 256)}, api.ErrMuch},
		wrong{api.Deed{Kind: api.DeedDelete, Key: 7, Data: []byte{0}}, api.ErrMuch},
		wrong{api.Deed{Kind: api.DeedPurge, Key: 7, N: 2, Data: []byte("a")}, api.ErrMuch})
}

// copyOf is a deep copy, made without package store.
func copyOf(s api.Store) api.Store {
	out := api.Store{Next: s.Next}
	for _, b := range s.Disk.Blocks {
		out.Disk.Blocks = append(out.Disk.Blocks, bytes.Clone(b))
	}
	for _, w := range s.Disk.Late {
		out.Disk.Late = append(out.Disk.Late, api.Write{At: w.At, Data: bytes.Clone(w.Data)})
	}
	for _, e := range s.Index {
		e.Record.Data = bytes.Clone(e.Record.Data)
		out.Index = append(out.Index, e)
	}
	return out
}

// same is whether a and b are alike in all that they have; nil and empty lists
// are told alike.
func same(a, b any) bool { return fmt.Sprint(a) == fmt.Sprint(b) }

// told is the index of s, in few words.
func told(s api.Store) string {
	text := ""
	for _, e := range s.Index {
		r := e.Record
		text += fmt.Sprintf("%d.%d%s@%d ", r.Key, r.Version, map[int]string{api.KindData: "=" + string(r.Data), api.KindMark: "!"}[r.Kind], e.Pair)
	}
	return text
}

func records(s api.Store) []api.Record {
	var l []api.Record
	for _, e := range s.Index {
		l = append(l, e.Record)
	}
	return l
}

func TestNewStore(t *testing.T) {
	s := store.New()
	if want := holding(); !same(s, want) {
		t.Errorf("it is %v, not %v", s, want)
	}
	wipe(s)
	if want := holding(); !same(store.New(), want) {
		t.Error("a second one changed with the first one")
	}
}

func TestOwnIsACopy(t *testing.T) {
	for _, s := range stores() {
		if got := store.Own(s); !same(got, s) {
			t.Errorf("of %v it is %v", s, got)
		}
	}
}

// A disk that is mounted tells what its pairs tell, however the store that left
// it was.
func TestMountOfWhatStoresLeave(t *testing.T) {
	for _, s := range stores() {
		left := copyOf(s).Disk
		want := copyOf(s)
		want.Disk.Late, want.Index, want.Next = nil, nil, 0
		for p := range 6 {
			for _, r := range allRecords() {
				if bytes.Equal(left.Blocks[2*p], written(r, 2*p)) || bytes.Equal(left.Blocks[2*p+1], written(r, 2*p+1)) {
					want.Index = with(want.Index, api.Entry{Record: r, Pair: p})
				}
			}
		}
		if got := store.Mount(left); !same(got, want) {
			t.Errorf("of %v it is %v, not %v", left, got, want)
		}
	}
}

func TestMountKnownDisks(t *testing.T) {
	some := []api.Record{data(7, 1, "ab"), mark(7, 3), data(1, 2, "")}
	clash := holding(some...)
	clash.Disk.Blocks[3] = written(data(9, 9, "z"), 3)
	half := holding(some...)
	half.Disk.Blocks[0], half.Disk.Blocks[4] = written(free(), 0), make([]byte, 16)
	half.Disk.Blocks[11] = written(mark(255, 60000), 11)
	begun := holding(some...)
	begun.Disk.Late = append(late(3, data(8, 4, "z")), late(0, free())...)
	moved := holding(some...)
	moved.Disk.Blocks[0], moved.Disk.Blocks[1] = moved.Disk.Blocks[1], moved.Disk.Blocks[0]
	for _, c := range []struct {
		name string
		d    api.Disk
		want string
	}{
		{"a new one", holding().Disk, ""},
		{"some records", holding(some...).Disk, "1.2=@2 7.1=ab@0 7.3!@1 "},
		{"pairs that clash", clash.Disk, "1.2=@2 7.1=ab@0 7.3!@1 "},
		{"pairs one block of which tells", half.Disk, "1.2=@2 7.1=ab@0 7.3!@1 255.60000!@5 "},
		{"late writes", begun.Disk, "1.2=@2 7.1=ab@0 7.3!@1 "},
		{"blocks of other places", moved.Disk, "1.2=@2 7.3!@1 "},
		{"one block is spoilt", rotten(holding(some...), 2).Disk, "1.2=@2 7.1=ab@0 7.3!@1 "},
		{"a pair is spoilt", rotten(holding(some...), 2, 3).Disk, "1.2=@2 7.1=ab@0 "},
		{"all are full", holding(six()...).Disk, "7.2=x@0 7.2=aa@2 7.2!@4 8.3=@5 8.9!@1 255.12=12345678@3 "},
	} {
		s := store.Mount(c.d)
		if told(s) != c.want {
			t.Errorf("%s: the index is %s, not %s", c.name, told(s), c.want)
		}
		if !same(s.Disk, api.Disk{Blocks: c.d.Blocks}) || s.Next != 0 {
			t.Errorf("%s: it is %v, not the disk without late writes, and 0 next", c.name, s)
		}
	}
}

func TestMountTwiceIsAsOnce(t *testing.T) {
	for _, s := range stores() {
		once := store.Mount(s.Disk)
		if twice := store.Mount(once.Disk); !same(once, twice) {
			t.Errorf("once it is %v, twice %v", once, twice)
		}
	}
}

// They are those of the index, whatever has become of the disk since.
func TestRecordsAreThoseOfTheIndex(t *testing.T) {
	for _, s := range stores() {
		want := records(copyOf(s))
		if got := store.Records(s); !same(got, want) {
			t.Errorf("of %v it is %v, not %v", s, got, want)
		}
		if got := store.Records(api.Store{Index: s.Index}); !same(got, want) {
			t.Errorf("of the index of %v alone it is %v, not %v", s, got, want)
		}
	}
}

// wanted is what Begin must answer of a right deed, worked out from the words
// of the chapters.
func wanted(s api.Store, d api.Deed) (api.Store, int, api.Errno) {
	s = copyOf(s)
	if d.Kind == api.DeedPurge {
		for i, e := range s.Index {
			if e.Record.Key == d.Key && e.Record.Version == d.N {
				s.Index = slices.Delete(s.Index, i, i+1)
				s.Disk.Late = append(s.Disk.Late, late(e.Pair, free())...)
				return s, d.N, api.OK
			}
		}
		return s, 0, api.ErrNone
	}
	n, p := 1, 0
	for _, e := range s.Index {
		n = max(n, e.Record.Version+1)
	}
	for slices.ContainsFunc(s.Index, func(e api.Entry) bool { return e.Pair == p }) {
		p++
	}
	switch {
	case p == 6:
		return s, 0, api.ErrFull
	case n > 60000:
		return s, 0, api.ErrMuch
	}
	r := mark(d.Key, n)
	if d.Kind == api.DeedPut {
		r = data(d.Key, n, string(d.Data))
	}
	s.Index = with(s.Index, api.Entry{Record: r, Pair: p})
	s.Disk.Late = append(s.Disk.Late, late(p, r)...)
	return s, n, api.OK
}

// flushed is s when all its writes have come to the disk.
func flushed(s api.Store) api.Store {
	s = copyOf(s)
	for _, w := range s.Disk.Late {
		s.Disk.Blocks[w.At] = w.Data
	}
	s.Disk.Late = nil
	return s
}

func TestBeginOfEveryDeed(t *testing.T) {
	for _, s := range stores() {
		for _, d := range deeds() {
			got, n, err := store.Begin(s, d)
			want, wantN, wantErr := wanted(s, d)
			if !same(got, want) || n != wantN || err != wantErr {
				t.Errorf("Begin(%v, %v) is %v, %d, %d, not %v, %d, %d", s, d, got, n, err, want, wantN, wantErr)
			}
		}
	}
}

func TestDoOfEveryDeed(t *testing.T) {
	for _, s := range stores() {
		for _, d := range deeds() {
			got, n, err := store.Do(s, d)
			want, wantN, wantErr := wanted(s, d)
			if wantErr == api.OK {
				want = flushed(want)
			}
			if !same(got, want) || n != wantN || err != wantErr {
				t.Errorf("Do(%v, %v) is %v, %d, %d, not %v, %d, %d", s, d, got, n, err, want, wantN, wantErr)
			}
		}
	}
}

// What is wrong is told ahead of what can't be done, and beside an error the
// store is as it was, its late writes too.
func TestWrongDeeds(t *testing.T) {
	for _, s := range stores() {
		for _, w := range wrongs() {
			if got, n, err := store.Begin(s, w.d); !same(got, s) || n != 0 || err != w.want {
				t.Errorf("Begin(%v, %v) is %v, %d, %d", s, w.d, got, n, err)
			}
			if got, n, err := store.Do(s, w.d); !same(got, s) || n != 0 || err != w.want {
				t.Errorf("Do(%v, %v) is %v, %d, %d", s, w.d, got, n, err)
			}
		}
	}
}

type done struct {
	d    api.Deed
	n    int
	err  api.Errno
	then string
}

// run does these deeds to s, one behind the other, and looks at each answer.
func run(t *testing.T, s api.Store, deeds []done) {
	t.Helper()
	for i, x := range deeds {
		got, n, err := store.Do(s, x.d)
		if told(got) != x.then || n != x.n || err != x.err {
			t.Errorf("deed %d, %v: it is %s%d, %d, not %s%d, %d", i, x.d, told(got), n, err, x.then, x.n, x.err)
		}
		if len(got.Disk.Late) != 0 || !same(store.Mount(got.Disk), got) {
			t.Errorf("deed %d, %v: the disk has not what the index has", i, x.d)
		}
		s = got
	}
}

func TestDoKnownDeeds(t *testing.T) {
	run(t, store.New(), []done{
		{purge(7, 1), 0, api.ErrNone, ""},
		{put(7, "a"), 1, api.OK, "7.1=a@0 "},
		{put(7, "a"), 2, api.OK, "7.1=a@0 7.2=a@1 "},
		{del(1), 3, api.OK, "1.3!@2 7.1=a@0 7.2=a@1 "},
		{purge(7, 3), 0, api.ErrNone, "1.3!@2 7.1=a@0 7.2=a@1 "},
		{purge(1, 1), 0, api.ErrNone, "1.3!@2 7.1=a@0 7.2=a@1 "},
		{purge(7, 1), 1, api.OK, "1.3!@2 7.2=a@1 "},
		{put(4, "12345678"), 4, api.OK, "1.3!@2 4.4=12345678@0 7.2=a@1 "},
		{purge(7, 2), 2, api.OK, "1.3!@2 4.4=12345678@0 "},
		{purge(4, 4), 4, api.OK, "1.3!@2 "},
		{put(0, "a"), 0, api.ErrRange, "1.3!@2 "},
		{put(4, ""), 4, api.OK, "1.3!@2 4.4=@0 "},
		{del(4), 5, api.OK, "1.3!@2 4.4=@0 4.5!@1 "},
		{put(4, "back"), 6, api.OK, "1.3!@2 4.4=@0 4.5!@1 4.6=back@3 "},
		{put(255, ""), 7, api.OK, "1.3!@2 4.4=@0 4.5!@1 4.6=back@3 255.7=@4 "},
		{del(255), 8, api.OK, "1.3!@2 4.4=@0 4.5!@1 4.6=back@3 255.7=@4 255.8!@5 "},
		{del(255), 0, api.ErrFull, "1.3!@2 4.4=@0 4.5!@1 4.6=back@3 255.7=@4 255.8!@5 "},
		{put(1, "x"), 0, api.ErrFull, "1.3!@2 4.4=@0 4.5!@1 4.6=back@3 255.7=@4 255.8!@5 "},
		{put(1, "123456789"), 0, api.ErrMuch, "1.3!@2 4.4=@0 4.5!@1 4.6=back@3 255.7=@4 255.8!@5 "},
		{purge(4, 6), 6, api.OK, "1.3!@2 4.4=@0 4.5!@1 255.7=@4 255.8!@5 "},
		{put(1, "x"), 9, api.OK, "1.3!@2 1.9=x@3 4.4=@0 4.5!@1 255.7=@4 255.8!@5 "},
	})
}

func TestDoAtTheLastVersion(t *testing.T) {
	run(t, holding(data(1, 59999, "a")), []done{
		{del(2), 60000, api.OK, "1.59999=a@0 2.60000!@1 "},
		{put(1, "b"), 0, api.ErrMuch, "1.59999=a@0 2.60000!@1 "},
		{del(1), 0, api.ErrMuch, "1.59999=a@0 2.60000!@1 "},
		{purge(1, 59999), 59999, api.OK, "2.60000!@1 "},
		{put(1, "b"), 0, api.ErrMuch, "2.60000!@1 "},
		{purge(2, 60000), 60000, api.OK, ""},
		{put(1, "b"), 1, api.OK, "1.1=b@0 "},
	})
	full := "1.1!@1 1.2!@2 1.3!@3 1.4!@4 1.5!@5 1.60000!@0 "
	run(t, holding(mark(1, 60000), mark(1, 1), mark(1, 2), mark(1, 3), mark(1, 4), mark(1, 5)), []done{
		{put(7, "a"), 0, api.ErrFull, full},
		{purge(1, 1), 1, api.OK, "1.2!@2 1.3!@3 1.4!@4 1.5!@5 1.60000!@0 "},
		{put(7, "a"), 0, api.ErrMuch, "1.2!@2 1.3!@3 1.4!@4 1.5!@5 1.60000!@0 "},
	})
}

// Of versions that are there several times the one of the first pair goes.
func TestPurgeTakesTheFirstOfSeveral(t *testing.T) {
	run(t, holding(six()...), []done{
		{purge(7, 2), 2, api.OK, "7.2=aa@2 7.2!@4 8.3=@5 8.9!@1 255.12=12345678@3 "},
		{purge(7, 2), 2, api.OK, "7.2!@4 8.3=@5 8.9!@1 255.12=12345678@3 "},
		{purge(7, 2), 2, api.OK, "8.3=@5 8.9!@1 255.12=12345678@3 "},
		{purge(7, 2), 0, api.ErrNone, "8.3=@5 8.9!@1 255.12=12345678@3 "},
		{put(8, "z"), 13, api.OK, "8.3=@5 8.9!@1 8.13=z@0 255.12=12345678@3 "},
	})
}

// A version may come to be there twice: its pair is lost, another one has it
// anew, and the first one is right again.
func TestAVersionThatIsThereTwice(t *testing.T) {
	s := store.New()
	for _, d := range []api.Deed{put(1, "a"), put(2, "b"), put(7, "c")} {
		s, _, _ = store.Do(s, d)
	}
	lost := disk.Spoil(disk.Spoil(s.Disk, 4, 6, 1), 5, 6, 1)
	s = store.Mount(lost)
	if told(s) != "1.1=a@0 2.2=b@1 " {
		t.Fatalf("without its pair it is %s", told(s))
	}
	s, _, _ = store.Do(s, purge(1, 1))
	s, n, err := store.Do(s, put(7, "d"))
	if n != 3 || err != api.OK {
		t.Fatalf("it is version %d, %d", n, err)
	}
	s = store.Mount(disk.Spoil(disk.Spoil(s.Disk, 4, 6, 1), 5, 6, 1))
	if told(s) != "2.2=b@1 7.3=d@0 7.3=c@2 " {
		t.Fatalf("it is %s", told(s))
	}
	if b, err := store.Get(s, 7); string(b) != "d" || err != api.OK {
		t.Errorf("of two the first one holds, not %q, %d", b, err)
	}
	run(t, s, []done{
		{purge(7, 3), 3, api.OK, "2.2=b@1 7.3=c@2 "},
		{purge(7, 3), 3, api.OK, "2.2=b@1 "},
		{purge(7, 3), 0, api.ErrNone, "2.2=b@1 "},
	})
}

// What rots behind the index's back neither stops a deed nor is told.
func TestDeedsOfARottenStore(t *testing.T) {
	s := rotten(holding(data(7, 1, "a"), mark(9, 2)), 0, 1, 2, 3, 4)
	if b, err := store.Get(s, 7); string(b) != "a" || err != api.OK {
		t.Errorf("it is %q, %d", b, err)
	}
	s, n, err := store.Do(s, put(8, "b"))
	if told(s) != "7.1=a@0 8.3=b@2 9.2!@1 " || n != 3 || err != api.OK {
		t.Errorf("it is %s, %d, %d", told(s), n, err)
	}
	s, n, err = store.Do(s, purge(7, 1))
	if told(s) != "8.3=b@2 9.2!@1 " || n != 1 || err != api.OK {
		t.Errorf("it is %s, %d, %d", told(s), n, err)
	}
	if m := store.Mount(s.Disk); told(m) != "8.3=b@2 " {
		t.Errorf("mounted it is %s", told(m))
	}
}

// fewDeeds are tried in every order.
func fewDeeds() []api.Deed {
	return []api.Deed{put(7, "a"), put(1, "bc"), del(7), purge(7, 1), purge(7, 2), purge(1, 3), put(256, "")}
}

// everyPlay calls look with s, and with what up to depth deeds make of it, and
// each deed that comes next.
func everyPlay(s api.Store, depth int, look func(api.Store, api.Deed)) {
	if depth == 0 {
		return
	}
	for _, d := range fewDeeds() {
		look(s, d)
		next, _, _ := store.Do(s, d)
		everyPlay(next, depth-1, look)
	}
}

// What it does is what is meant: the model, which knows nothing of disks, has
// the same records, and the same answers.
func TestDoIsAsTheModel(t *testing.T) {
	everyPlay(store.New(), 5, func(s api.Store, d api.Deed) {
		l, n, err := model.Do(store.Records(s), d)
		got, gotN, gotErr := store.Do(s, d)
		if !model.Same(store.Records(got), l) || gotN != n || gotErr != err {
			t.Errorf("Do(%s, %v) is %s, %d, %d, not %v, %d, %d", told(s), d, told(got), gotN, gotErr, l, n, err)
		}
		if m := store.Mount(got.Disk); !same(m, got) {
			t.Errorf("behind Do(%s, %v) the disk has %s", told(s), d, told(m))
		}
	})
}

// All of it, or nothing: of a deed that falls in the midst the disk has what was
// there, or what is there behind it. A put is there with one of its writes; a
// purge takes both.
func TestADeedThatFalls(t *testing.T) {
	everyPlay(store.New(), 4, func(s api.Store, d api.Deed) {
		begun, _, err := store.Begin(s, d)
		wantLate := 2
		if err != api.OK {
			wantLate = 0
		}
		if len(begun.Disk.Late) != wantLate {
			t.Errorf("Begin(%s, %v), %d: there are %d late writes", told(s), d, err, len(begun.Disk.Late))
		}
		if told(store.Mount(begun.Disk)) != told(s) {
			t.Errorf("without its writes %v makes something of %s", d, told(s))
		}
		for bits := range 4 {
			want := begun
			if bits == 0 || d.Kind == api.DeedPurge && bits != 3 {
				want = s
			}
			if got := store.Mount(disk.Keep(begun.Disk, bits)); told(got) != told(want) {
				t.Errorf("%v to %s falls with writes %b: it is %s, not %s", d, told(s), bits, told(got), told(want))
			}
		}
	})
}

// Deeds that are begun one behind the other are there when all have come.
func TestBeginBehindBegin(t *testing.T) {
	s := store.New()
	s.Next = 4
	for _, d := range []api.Deed{put(7, "a"), put(8, "b"), purge(7, 1), del(9)} {
		s, _, _ = store.Begin(s, d)
	}
	if told(s) != "8.2=b@1 9.3!@0 " || len(s.Disk.Late) != 8 || s.Next != 4 {
		t.Errorf("it is %v", s)
	}
	s, n, err := store.Do(s, put(7, "c"))
	if told(s) != "7.4=c@2 8.2=b@1 9.3!@0 " || n != 4 || err != api.OK || s.Next != 4 {
		t.Errorf("it is %v, %d, %d", s, n, err)
	}
	if m := store.Mount(s.Disk); len(s.Disk.Late) != 0 || told(m) != told(s) {
		t.Errorf("the disk has %s, not %s", told(m), told(s))
	}
}

func someKeys() []int {
	return []int{math.MinInt, -7, -1, 0, 1, 2, 6, 7, 8, 9, 10, 254, 255, 256, 263, math.MaxInt}
}

func TestGetKnownKeys(t *testing.T) {
	for _, c := range []struct {
		s    api.Store
		key  int
		want string
		err  api.Errno
	}{
		{holding(), 7, "", api.ErrNone},
		{holding(data(7, 1, "ab")), 7, "ab", api.OK},
		{holding(data(7, 1, "ab")), 8, "", api.ErrNone},
		{holding(data(7, 1, "")), 7, "", api.OK},
		{holding(data(7, 1, "ab"), mark(7, 2)), 7, "", api.ErrGone},
		{holding(data(7, 3, "ab"), mark(7, 2)), 7, "ab", api.OK},
		{holding(data(7, 3, "new"), data(7, 2, "old")), 7, "new", api.OK},
		{holding(data(7, 2, "old"), mark(8, 9), data(7, 3, "new")), 7, "new", api.OK},
		{holding(mark(255, 1)), 255, "", api.ErrGone},
		{holding(data(7, 2, "first"), mark(7, 2), data(7, 2, "third")), 7, "first", api.OK},
		{holding(mark(7, 2), data(7, 2, "second")), 7, "", api.ErrGone},
		{holding(data(255, 60000, "12345678")), 255, "12345678", api.OK},
		{holding(data(255, 60000, "12345678")), 511, "", api.ErrNone},
		{rotten(holding(data(7, 1, "ab")), 0, 1), 7, "ab", api.OK},
	} {
		b, err := store.Get(c.s, c.key)
		if string(b) != c.want || err != c.err {
			t.Errorf("of key %d of %s it is %q, %d, not %q, %d", c.key, told(c.s), b, err, c.want, c.err)
		}
	}
}

// got is what Get must answer, worked out from the words of the chapters.
func got(s api.Store, key int) ([]byte, api.Errno) {
	newest := api.Record{}
	for _, e := range s.Index {
		if e.Record.Key == key && e.Record.Version > newest.Version {
			newest = e.Record
		}
	}
	switch newest.Kind {
	case api.KindData:
		return newest.Data, api.OK
	case api.KindMark:
		return nil, api.ErrGone
	}
	return nil, api.ErrNone
}

func TestGetOfEveryStore(t *testing.T) {
	for _, s := range stores() {
		for _, key := range someKeys() {
			b, err := store.Get(s, key)
			want, wantErr := got(s, key)
			if !bytes.Equal(b, want) || err != wantErr {
				t.Errorf("of key %d of %s it is %q, %d, not %q, %d", key, told(s), b, err, want, wantErr)
			}
		}
	}
}

func TestListKnownStores(t *testing.T) {
	s := holding(data(200, 1, "a"), data(7, 2, ""), mark(9, 3), data(7, 4, "b"), data(1, 5, "c"), data(9, 1, "old"))
	for _, c := range []struct {
		from, most int
		want       []int
	}{
		{0, 99, []int{1, 7, 200}}, {1, 99, []int{1, 7, 200}}, {2, 99, []int{7, 200}}, {7, 99, []int{7, 200}}, {8, 99, []int{200}},
		{200, 99, []int{200}}, {201, 99, nil}, {255, 99, nil}, {256, 99, nil}, {math.MaxInt, math.MaxInt, nil},
		{math.MinInt, math.MaxInt, []int{1, 7, 200}}, {-1, 3, []int{1, 7, 200}}, {0, 2, []int{1, 7}}, {0, 1, []int{1}}, {2, 1, []int{7}},
		{0, 0, nil}, {0, -1, nil}, {0, math.MinInt, nil}, {7, 2, []int{7, 200}}, {8, 1, []int{200}}, {201, -1, nil},
	} {
		if got := store.List(s, c.from, c.most); !slices.Equal(got, c.want) {
			t.Errorf("from %d on, %d at most, it is %v, not %v", c.from, c.most, got, c.want)
		}
		if got := store.List(holding(), c.from, c.most); len(got) != 0 {
			t.Errorf("without records it is %v", got)
		}
	}
}

func TestListOfEveryStore(t *testing.T) {
	for _, s := range stores() {
		for _, from := range someKeys() {
			for _, most := range []int{math.MinInt, -1, 0, 1, 2, 3, 6, 99, math.MaxInt} {
				var want []int
				for key := 1; key <= 255; key++ {
					if _, err := got(s, key); err == api.OK && key >= from && len(want) < most {
						want = append(want, key)
					}
				}
				if got := store.List(s, from, most); !slices.Equal(got, want) {
					t.Errorf("of %s, from %d on, %d at most, it is %v, not %v", told(s), from, most, got, want)
				}
			}
		}
	}
}

func TestPageByPageAsAtOnce(t *testing.T) {
	for _, s := range stores() {
		for most := 1; most <= 4; most++ {
			var pages []int
			page := store.List(s, 1, most)
			for len(page) > 0 && len(pages) < 255 {
				pages = append(pages, page...)
				page = store.List(s, page[len(page)-1]+1, most)
			}
			if want := store.List(s, 1, 255); !slices.Equal(pages, want) {
				t.Errorf("of %s, in pages of %d, it is %v, not %v", told(s), most, pages, want)
			}
		}
	}
}

// roomyBytes are b, and spare room behind them with something in it.
func roomyBytes(b []byte) []byte { return append(bytes.Clone(b), "spare"...)[:len(b)] }

// roomy is s with spare room behind every list, and something in it: blocks,
// writes and entries that would make a difference.
func roomy(s api.Store) api.Store {
	out := api.Store{Next: s.Next}
	for _, b := range s.Disk.Blocks {
		out.Disk.Blocks = append(out.Disk.Blocks, roomyBytes(b))
	}
	for _, w := range s.Disk.Late {
		out.Disk.Late = append(out.Disk.Late, api.Write{At: w.At, Data: roomyBytes(w.Data)})
	}
	for _, e := range s.Index {
		e.Record.Data = roomyBytes(e.Record.Data)
		out.Index = append(out.Index, e)
	}
	for p := range 6 {
		r := data(7, 300+p, "spare")
		out.Disk.Blocks = append(out.Disk.Blocks, written(r, 2*p), written(r, 2*p+1))
		out.Disk.Late = append(out.Disk.Late, late(p, r)...)
		out.Index = append(out.Index, api.Entry{Record: r, Pair: p})
	}
	out.Disk.Blocks = out.Disk.Blocks[:len(s.Disk.Blocks)]
	out.Disk.Late = out.Disk.Late[:len(s.Disk.Late)]
	out.Index = out.Index[:len(s.Index)]
	return out
}

// whole is s with its spare room as part of it; its lists are those of s.
func whole(s api.Store) api.Store {
	s.Disk.Blocks = slices.Clone(s.Disk.Blocks[:cap(s.Disk.Blocks)])
	for at, b := range s.Disk.Blocks {
		s.Disk.Blocks[at] = b[:cap(b)]
	}
	s.Disk.Late = slices.Clone(s.Disk.Late[:cap(s.Disk.Late)])
	for i, w := range s.Disk.Late {
		s.Disk.Late[i].Data = w.Data[:cap(w.Data)]
	}
	s.Index = slices.Clone(s.Index[:cap(s.Index)])
	for i, e := range s.Index {
		s.Index[i].Record.Data = e.Record.Data[:cap(e.Record.Data)]
	}
	return s
}

// reached is a copy of all that can be reached from s.
func reached(s api.Store) api.Store { return copyOf(whole(s)) }

// wipe turns all that can be reached from s, spare room too.
func wipe(s api.Store) {
	for _, b := range bytesOf(whole(s)) {
		wipeBytes(b)
	}
	clear(s.Disk.Blocks[:cap(s.Disk.Blocks)])
	clear(s.Disk.Late[:cap(s.Disk.Late)])
	clear(s.Index[:cap(s.Index)])
}

func wipeBytes(b []byte) {
	b = b[:cap(b)]
	for n := range b {
		b[n] ^= 255
	}
}

// bytesOf are all lists of bytes that s has.
func bytesOf(s api.Store) [][]byte {
	out := slices.Clone(s.Disk.Blocks)
	for _, w := range s.Disk.Late {
		out = append(out, w.Data)
	}
	for _, e := range s.Index {
		out = append(out, e.Record.Data)
	}
	return out
}

type call struct {
	name string
	do   func(api.Store) api.Store
}

// calls are all that take a store, or its disk; what they answer is told as a
// store.
func calls() []call {
	deed := func(do func(api.Store, api.Deed) (api.Store, int, api.Errno), d api.Deed) func(api.Store) api.Store {
		return func(s api.Store) api.Store {
			s, _, _ = do(s, d)
			return s
		}
	}
	get := func(key int) func(api.Store) api.Store {
		return func(s api.Store) api.Store {
			b, err := store.Get(s, key)
			return api.Store{Disk: api.Disk{Blocks: [][]byte{b}}, Next: int(err)}
		}
	}
	return []call{
		{"Own", store.Own},
		{"Mount", func(s api.Store) api.Store { return store.Mount(s.Disk) }},
		{"Records", func(s api.Store) api.Store {
			var out api.Store
			for _, r := range store.Records(s) {
				out.Index = append(out.Index, api.Entry{Record: r})
			}
			return out
		}},
		{"Begin of a put", deed(store.Begin, put(7, "new"))},
		{"Begin of a delete", deed(store.Begin, del(8))},
		{"Begin of a purge", deed(store.Begin, purge(7, 2))},
		{"Begin of a purge of none", deed(store.Begin, purge(7, 59999))},
		{"Begin of a wrong deed", deed(store.Begin, put(0, "new"))},
		{"Do of a put", deed(store.Do, put(7, "new"))},
		{"Do of a delete", deed(store.Do, del(8))},
		{"Do of a purge", deed(store.Do, purge(7, 2))},
		{"Do of a purge of none", deed(store.Do, purge(7, 59999))},
		{"Do of a wrong deed", deed(store.Do, put(0, "new"))},
		{"Get", get(7)},
		{"Get of what is gone", get(8)},
		{"List", func(s api.Store) api.Store {
			var out api.Store
			for _, key := range store.List(s, 1, 255) {
				out.Index = append(out.Index, api.Entry{Pair: key})
			}
			return out
		}},
	}
}

func TestNoCallChangesOrKeepsWhatItIsHanded(t *testing.T) {
	for _, c := range calls() {
		for _, plain := range stores() {
			want := copyOf(c.do(plain))
			given := roomy(plain)
			room := reached(given)
			answer := c.do(given)
			if !same(answer, want) {
				t.Errorf("%s: of %v with spare room behind it is %v, not %v", c.name, plain, answer, want)
			}
			if !same(reached(given), room) {
				t.Errorf("%s: what was handed in, %v, is changed", c.name, plain)
			}
			wipe(answer)
			if !same(reached(given), room) {
				t.Errorf("%s: what was handed in, %v, changed with the answer", c.name, plain)
			}
			answer = c.do(given)
			wipe(given)
			if !same(answer, want) {
				t.Errorf("%s: the answer of %v changed with what was handed in", c.name, plain)
			}
		}
	}
}

// The data of a put stands in two blocks, and in the index, but in no memory
// twice.
func TestListsOfAnAnswerShareNoMemory(t *testing.T) {
	for _, c := range calls() {
		for _, s := range stores() {
			answer := c.do(s)
			lists := bytesOf(answer)
			for i, b := range lists {
				kept := slices.Clone(lists)
				for n := range kept {
					kept[n] = bytes.Clone(kept[n])
				}
				wipeBytes(b)
				kept[i] = bytes.Clone(b)
				if !same(lists, kept) {
					t.Errorf("%s: of %v list %d shares memory with another one", c.name, s, i)
				}
			}
		}
	}
}

func TestNoCallChangesOrKeepsADeed(t *testing.T) {
	for name, do := range map[string]func(api.Store, api.Deed) (api.Store, int, api.Errno){"Begin": store.Begin, "Do": store.Do} {
		for _, text := range []string{"", "abc", "12345678", "123456789"} {
			want, _, _ := do(holding(data(7, 1, "x")), put(7, text))
			d := api.Deed{Kind: api.DeedPut, Key: 7, Data: roomyBytes([]byte(text))}
			room := bytes.Clone(d.Data[:cap(d.Data)])
			answer, _, _ := do(holding(data(7, 1, "x")), d)
			if !same(answer, want) || !bytes.Equal(d.Data[:cap(d.Data)], room) {
				t.Errorf("%s of a put of %q with spare room is %v, and leaves %q", name, text, answer, d.Data[:cap(d.Data)])
			}
			wipeBytes(d.Data)
			if !same(answer, want) {
				t.Errorf("%s: the answer changed with the deed", name)
			}
			room = bytes.Clone(d.Data[:cap(d.Data)])
			wipe(answer)
			if !bytes.Equal(d.Data[:cap(d.Data)], room) {
				t.Errorf("%s: the deed changed with the answer", name)
			}
		}
	}
}

func TestListAnswersNewMemory(t *testing.T) {
	s := holding(data(7, 1, "a"), data(9, 2, "b"), data(11, 3, "c"))
	a := store.List(s, 1, 2)
	b := store.List(s, 1, 2)
	_ = append(a, 99)
	clear(a[:cap(a)])
	if !slices.Equal(b, []int{7, 9}) || !slices.Equal(store.List(s, 1, 3), []int{7, 9, 11}) {
		t.Errorf("another answer changed, to %v", b)
	}
}

func TestNilAndEmptyAreTheSame(t *testing.T) {
	empty := holding()
	empty.Disk.Late, empty.Index = []api.Write{}, []api.Entry{}
	for at, b := range empty.Disk.Blocks {
		empty.Disk.Blocks[at] = bytes.Clone(b)
	}
	nothing := api.Store{Disk: api.Disk{Blocks: [][]byte{}, Late: []api.Write{}}, Index: []api.Entry{}}
	for _, c := range calls() {
		if a, b := c.do(holding()), c.do(empty); !same(a, b) {
			t.Errorf("%s: with nil lists it is %v, with empty ones %v", c.name, a, b)
		}
		if a, b := c.do(api.Store{}), c.do(nothing); !same(a, b) {
			t.Errorf("%s: of nothing it is %v, of empty lists %v", c.name, a, b)
		}
	}
	a, n, err := store.Do(store.New(), api.Deed{Kind: api.DeedPut, Key: 7})
	b, m, errToo := store.Do(store.New(), api.Deed{Kind: api.DeedPut, Key: 7, Data: []byte{}})
	if !same(a, b) || n != m || err != errToo {
		t.Errorf("a put of nil is %v, %d, %d, of no bytes %v, %d, %d", a, n, err, b, m, errToo)
	}
}

// The document says nothing of what is no store; a call must still end without
// a panic, leave what it is handed, and beside an error answer it.
func TestWhatIsNoStore(t *testing.T) {
	short := holding(data(7, 2, "ab"))
	short.Disk.Blocks = short.Disk.Blocks[:1]
	far := holding(data(7, 2, "ab"))
	far.Index[0].Pair = 1 << 62
	below := holding(data(7, 2, "ab"))
	below.Index[0].Pair = -1
	disordered := holding(six()...)
	slices.Reverse(disordered.Index)
	strange := holding()
	strange.Next = math.MinInt
	strange.Disk.Blocks[3] = nil
	strange.Disk.Late = []api.Write{{}, {At: -1}, {At: 12, Data: []byte{1}}}
	strange.Index = []api.Entry{{}, {Record: mark(math.MinInt, math.MaxInt)}, {Record: data(7, -5, "more than eight bytes")}}
	old := holding()
	old.Index = []api.Entry{{Record: mark(7, -5)}}
	for i, s := range []api.Store{{}, short, far, below, disordered, strange, old} {
		kept := copyOf(s)
		for _, c := range calls() {
			c.do(s)
			if !same(s, kept) {
				t.Errorf("%d: %s changed what was handed in", i, c.name)
			}
		}
		for _, d := range deeds() {
			if got, n, err := store.Do(s, d); err != api.OK && (n != 0 || !same(got, s)) {
				t.Errorf("%d: %v is %v, %d, %d", i, d, got, n, err)
			}
		}
	}
	mixed := api.Store{Index: []api.Entry{{Record: data(9, 1, "")}, {Record: data(7, 2, "")}, {Record: data(9, 3, "")}}}
	if got := store.List(mixed, 1, 255); !slices.Equal(got, []int{7, 9}) {
		t.Errorf("without order there are the keys %v", got)
	}
	for _, s := range []api.Store{far, below, short} {
		if _, _, err := store.Do(s, purge(7, 2)); err != api.ErrRange {
			t.Errorf("where there is no such pair, or no such block, a purge is %d", err)
		}
	}
	if _, _, err := store.Begin(old, del(7)); err != api.ErrRange {
		t.Errorf("where the next version is below 1, a delete is %d", err)
	}
}
