package block_test

import (
	"bytes"
	"math"
	"testing"

	"scrubstore/api"
	"scrubstore/block"
	"scrubstore/sum"
)

func free() api.Record { return api.Record{Kind: api.KindFree} }

func mark(key, version int) api.Record {
	return api.Record{Kind: api.KindMark, Key: key, Version: version}
}

func data(key, version int, s string) api.Record {
	return api.Record{Kind: api.KindData, Key: key, Version: version, Data: []byte(s)}
}

// rights are right records, at the edges of every limit and within.
func rights() []api.Record {
	out := []api.Record{free(), {Kind: api.KindFree, Data: []byte{}}}
	for _, key := range []int{1, 2, 128, 254, 255} {
		for _, version := range []int{1, 255, 256, 300, 32768, 59999, 60000} {
			out = append(out, mark(key, version))
			for _, s := range []string{"", "\x00", "a", "abc", "a\x00", "1234567", "12345678", "\xff\xff\xff\xff\xff\xff\xff\xff", "\x00\x00\x00\x00\x00\x00\x00\x00"} {
				out = append(out, data(key, version, s))
			}
		}
	}
	return out
}

type wrong struct {
	r    api.Record
	want api.Errno
}

// wrongs are records that are not right; of some of them several errors fit.
func wrongs() []wrong {
	nine := "123456789"
	out := []wrong{
		{api.Record{}, api.ErrKind},
		{api.Record{Kind: -1}, api.ErrKind},
		{api.Record{Kind: 4}, api.ErrKind},
		{api.Record{Kind: 4, Key: 1, Version: 1}, api.ErrKind},
		{api.Record{Kind: 257}, api.ErrKind},
		{api.Record{Kind: math.MinInt}, api.ErrKind},
		{api.Record{Kind: math.MaxInt}, api.ErrKind},
		{api.Record{Kind: 4, Key: 256, Version: 60001, Data: []byte(nine)}, api.ErrKind},
		{api.Record{Kind: api.KindFree, Key: 1}, api.ErrRange},
		{api.Record{Kind: api.KindFree, Key: -1}, api.ErrRange},
		{api.Record{Kind: api.KindFree, Key: 256}, api.ErrRange},
		{api.Record{Kind: api.KindFree, Version: 1}, api.ErrRange},
		{api.Record{Kind: api.KindFree, Version: -1}, api.ErrRange},
		{api.Record{Kind: api.KindFree, Version: 65536}, api.ErrRange},
		{api.Record{Kind: api.KindFree, Key: 1, Version: 1}, api.ErrRange},
		{api.Record{Kind: api.KindFree, Key: 1, Data: []byte("a")}, api.ErrRange},
		{api.Record{Kind: api.KindFree, Data: []byte("a")}, api.ErrMuch},
		{api.Record{Kind: api.KindFree, Data: []byte{0}}, api.ErrMuch},
		{api.Record{Kind: api.KindFree, Data: []byte(nine)}, api.ErrMuch},
		{api.Record{Kind: api.KindMark, Key: 1, Version: 1, Data: []byte{0}}, api.ErrMuch},
		{api.Record{Kind: api.KindMark, Key: 1, Version: 1, Data: []byte(nine)}, api.ErrMuch},
		{data(1, 1, nine), api.ErrMuch},
		{data(255, 60000, nine+nine), api.ErrMuch},
		{api.Record{Kind: api.KindData, Key: 1, Version: 1, Data: make([]byte, 256)}, api.ErrMuch},
		{api.Record{Kind: api.KindData, Key: 1, Version: 1, Data: make([]byte, 257)}, api.ErrMuch},
	}
	for _, kind := range []int{api.KindData, api.KindMark} {
		for _, n := range []int{0, -1, 256, 257, math.MinInt, math.MaxInt} {
			out = append(out,
				wrong{api.Record{Kind: kind, Key: n, Version: 1}, api.ErrRange},
				wrong{api.Record{Kind: kind, Key: n, Version: 1, Data: []byte(nine)}, api.ErrRange})
		}
		for _, n := range []int{0, -1, 60001, 65535, 65537, math.MinInt, math.MaxInt} {
			out = append(out,
				wrong{api.Record{Kind: kind, Key: 1, Version: n}, api.ErrRange},
				wrong{api.Record{Kind: kind, Key: 1, Version: n, Data: []byte(nine)}, api.ErrRange})
		}
	}
	return out
}

// same is written out here once more, so that no test leans on block.Same.
func same(a, b api.Record) bool {
	return a.Kind == b.Kind && a.Key == b.Key && a.Version == b.Version && string(a.Data) == string(b.Data)
}

func isZero(r api.Record) bool { return same(r, api.Record{}) }

// sealed is a block of these bytes, noughts behind them, and a right sum.
func sealed(head ...byte) []byte {
	return sum.Seal(append(head, make([]byte, 14-len(head))...))
}

func TestSame(t *testing.T) {
	all := rights()
	for _, w := range wrongs() {
		all = append(all, w.r)
	}
	for _, a := range all {
		for _, b := range all {
			if got, want := block.Same(a, b), same(a, b); got != want {
				t.Errorf("Same(%v, %v) is %v, not %v", a, b, got, want)
			}
		}
	}
}

func TestSameAsksForEveryField(t *testing.T) {
	r := data(7, 300, "abc")
	if !block.Same(r, data(7, 300, "abc")) {
		t.Error("records alike in other memory are not Same")
	}
	for _, other := range []api.Record{
		{Kind: api.KindMark, Key: 7, Version: 300, Data: []byte("abc")},
		data(8, 300, "abc"), data(7, 301, "abc"), data(7, 300, "abd"), data(7, 300, "ab"), data(7, 300, "abc\x00"), data(7, 300, ""),
	} {
		if block.Same(r, other) || block.Same(other, r) {
			t.Errorf("%v and %v are Same", r, other)
		}
	}
	if block.Same(free(), api.Record{Kind: api.KindFree, Key: 1}) {
		t.Error("a free record with a key is Same as one without")
	}
}

func TestSameOfNilAndEmptyData(t *testing.T) {
	a := api.Record{Kind: api.KindData, Key: 1, Version: 1}
	if b := data(1, 1, ""); !block.Same(a, b) || !block.Same(b, a) {
		t.Error("data that is nil, and data without bytes, are not Same")
	}
}

func TestSameDoesNotLookAtSpareRoom(t *testing.T) {
	a, b := data(1, 1, "abcd"), data(1, 1, "abxy")
	a.Data, b.Data = a.Data[:2], b.Data[:2]
	if !block.Same(a, b) {
		t.Error("records that differ in spare room alone are not Same")
	}
}

func TestOwnIsACopy(t *testing.T) {
	all := append(rights(), data(1, 1, "123456789"))
	for _, w := range wrongs() {
		all = append(all, w.r)
	}
	for _, r := range all {
		if got := block.Own(r); !same(got, r) {
			t.Errorf("Own(%v) is %v", r, got)
		}
	}
}

func TestOwnHasMemoryOfItsOwn(t *testing.T) {
	room := []byte("abcdefgh")
	r := data(7, 300, "")
	r.Data = room[:3]
	got := block.Own(r)
	clear(room)
	if string(got.Data) != "abc" {
		t.Errorf("the copy changed with what Own was handed: %q", got.Data)
	}
	copy(room, "abcdefgh")
	clear(got.Data[:cap(got.Data)])
	if string(room) != "abcdefgh" {
		t.Errorf("what Own was handed changed with the copy: %q", room)
	}
}

func TestWrongOfRightRecords(t *testing.T) {
	for _, r := range rights() {
		if got := block.Wrong(r); got != api.OK {
			t.Errorf("Wrong(%v) is %d", r, got)
		}
	}
	for key := 1; key <= 255; key++ {
		if got := block.Wrong(data(key, 1, "a")); got != api.OK {
			t.Errorf("with key %d, Wrong is %d", key, got)
		}
	}
}

func TestWrongOfWrongRecords(t *testing.T) {
	for _, w := range wrongs() {
		if got := block.Wrong(w.r); got != w.want {
			t.Errorf("Wrong(%v) is %d, not %d", w.r, got, w.want)
		}
	}
}

func TestWrongOfDataBySize(t *testing.T) {
	for n := range 20 {
		want := api.OK
		if n > 8 {
			want = api.ErrMuch
		}
		r := api.Record{Kind: api.KindData, Key: 1, Version: 1, Data: make([]byte, n)}
		if got := block.Wrong(r); got != want {
			t.Errorf("with %d bytes of data, Wrong is %d, not %d", n, got, want)
		}
	}
	r := api.Record{Kind: api.KindMark, Key: 1, Version: 1, Data: make([]byte, 0, 20)}
	if got := block.Wrong(r); got != api.OK {
		t.Errorf("of spare room alone, Wrong is %d", got)
	}
}

func TestBytesKnownBlocks(t *testing.T) {
	for _, c := range []struct {
		r    api.Record
		at   int
		want []byte
	}{
		{free(), 9, []byte{1, 9, 0, 0, 0, 0, 0, 0, 0, 0, 0, 0, 0, 0, 119, 24}},
		{data(7, 300, "abc"), 9, []byte{2, 9, 7, 1, 44, 3, 97, 98, 99, 0, 0, 0, 0, 0, 36, 90}},
		{data(255, 60000, "12345678"), 9, []byte{2, 9, 255, 234, 96, 8, 49, 50, 51, 52, 53, 54, 55, 56, 113, 252}},
		{mark(1, 1), 9, []byte{3, 9, 1, 0, 1, 0, 0, 0, 0, 0, 0, 0, 0, 0, 201, 101}},
		{data(1, 1, ""), 0, sealed(2, 0, 1, 0, 1, 0)},
		{data(1, 256, "\x00"), 255, sealed(2, 255, 1, 1, 0, 1, 0)},
	} {
		if got := block.Bytes(c.r, c.at); !bytes.Equal(got, c.want) {
			t.Errorf("Bytes(%v, %d) is %v, not %v", c.r, c.at, got, c.want)
		}
	}
}

func TestBytesPartByPart(t *testing.T) {
	for _, r := range rights() {
		for _, at := range []int{0, 1, 5, 11, 128, 255} {
			head := []byte{byte(r.Kind), byte(at), byte(r.Key), byte(r.Version / 256), byte(r.Version % 256), byte(len(r.Data))}
			want := sealed(append(head, r.Data...)...)
			if got := block.Bytes(r, at); !bytes.Equal(got, want) || len(got) != api.BlockSize {
				t.Errorf("Bytes(%v, %d) is %v, not %v", r, at, got, want)
			}
		}
	}
}

// The document says nothing of these but that no call panics; what comes must
// not be taken for a block of any place.
func TestBytesOfWhatHasNoBlock(t *testing.T) {
	for _, w := range wrongs() {
		b := block.Bytes(w.r, 5)
		if r, err := block.Read(b, 5); err == api.OK {
			t.Errorf("Bytes(%v, 5) is read as %v", w.r, r)
		}
	}
	for _, at := range []int{-1, -256, 256, 257, 512, math.MinInt, math.MaxInt} {
		b := block.Bytes(data(7, 300, "abc"), at)
		for place := range 256 {
			if _, err := block.Read(b, place); err == api.OK {
				t.Errorf("Bytes at %d is read at %d", at, place)
			}
		}
	}
}

func TestBytesLeavesWhatItIsHanded(t *testing.T) {
	room := []byte("abcdefghijklmnopqrst")
	kept := bytes.Clone(room)
	r := data(7, 300, "")
	r.Data = room[:3]
	b := block.Bytes(r, 9)
	if !bytes.Equal(room, kept) {
		t.Fatalf("Bytes made %q of %q", room, kept)
	}
	told := bytes.Clone(b)
	if want := block.Bytes(data(7, 300, "abc"), 9); !bytes.Equal(b, want) {
		t.Errorf("with spare room behind the data, Bytes is %v, not %v", b, want)
	}
	clear(room)
	if !bytes.Equal(b, told) {
		t.Error("the block changed with the record")
	}
	copy(room, kept)
	clear(b[:cap(b)])
	if !bytes.Equal(room, kept) {
		t.Error("the record changed with the block")
	}
	if again := block.Bytes(r, 9); !bytes.Equal(again, told) {
		t.Error("the block hangs on what was done to an earlier one")
	}
}

func TestWrittenAndReadAgain(t *testing.T) {
	for _, r := range rights() {
		for _, at := range []int{0, 1, 5, 11, 128, 255} {
			got, err := block.Read(block.Bytes(r, at), at)
			if err != api.OK || !same(got, r) {
				t.Errorf("%v at %d is read as %v, %d", r, at, got, err)
			}
		}
	}
}

func TestVersionsWrittenAndReadAgain(t *testing.T) {
	for version := 1; version <= api.MaxVersion; version++ {
		r := mark(3, version)
		if got, err := block.Read(block.Bytes(r, 4), 4); err != api.OK || !same(got, r) {
			t.Fatalf("version %d is read as %v, %d", version, got, err)
		}
	}
}

func TestUnlikeIsWrittenUnlike(t *testing.T) {
	seen := map[string]api.Record{}
	for _, r := range rights() {
		s := string(block.Bytes(r, 5))
		if other, ok := seen[s]; ok && !same(other, r) {
			t.Errorf("%v and %v are one block", r, other)
		}
		seen[s] = r
	}
}

func TestReadAtAnotherPlace(t *testing.T) {
	for _, r := range []api.Record{free(), mark(1, 1), data(7, 300, "abc")} {
		for at := range 256 {
			b := block.Bytes(r, at)
			for _, place := range []int{at - 1, at + 1, at - 256, at + 256, -at - 1, math.MinInt, math.MaxInt} {
				if got, err := block.Read(b, place); err != api.ErrPlace || !isZero(got) {
					t.Errorf("%v of place %d is at %d %v, %d", r, at, place, got, err)
				}
			}
		}
	}
}

func TestReadOfAnotherSize(t *testing.T) {
	whole := block.Bytes(data(7, 300, "abc"), 9)
	for n := range 40 {
		if n == api.BlockSize {
			continue
		}
		cut := append(bytes.Clone(whole), make([]byte, 40)...)[:n]
		for _, b := range [][]byte{make([]byte, n), cut} {
			if got, err := block.Read(b, 9); err != api.ErrForm || !isZero(got) {
				t.Errorf("%d bytes are read as %v, %d", n, got, err)
			}
		}
	}
	if got, err := block.Read(nil, 0); err != api.ErrForm || !isZero(got) {
		t.Errorf("nil is read as %v, %d", got, err)
	}
	for _, b := range [][]byte{sum.Seal(whole[:13]), sum.Seal(whole[:15]), sum.Seal(nil)} {
		if got, err := block.Read(b, 9); err != api.ErrForm || !isZero(got) {
			t.Errorf("%d bytes that are sealed are read as %v, %d", len(b), got, err)
		}
	}
}

func TestReadOfOneByteTurned(t *testing.T) {
	for _, r := range []api.Record{free(), mark(1, 1), data(7, 300, "abc"), data(255, 60000, "12345678")} {
		b := block.Bytes(r, 9)
		for k := range b {
			for by := 1; by < 256; by++ {
				b[k] ^= byte(by)
				if got, err := block.Read(b, 9); err != api.ErrSum || !isZero(got) {
					t.Errorf("%v with byte %d turned by %d is read as %v, %d", r, k, by, got, err)
				}
				b[k] ^= byte(by)
			}
		}
	}
}

// Blocks with a right sum that tell no right record; of some several errors fit.
func TestReadOfSealedBytesThatAreWrong(t *testing.T) {
	for _, c := range []struct {
		b    []byte
		want api.Errno
	}{
		{sealed(1, 9, 0, 0, 0, 9), api.ErrMuch},
		{sealed(2, 9, 1, 0, 1, 9, 1, 2, 3, 4, 5, 6, 7, 8), api.ErrMuch},
		{sealed(2, 9, 1, 0, 1, 10), api.ErrMuch},
		{sealed(2, 9, 1, 0, 1, 11), api.ErrMuch},
		{sealed(2, 9, 1, 0, 1, 255), api.ErrMuch},
		{sealed(0, 9, 0, 0, 0, 9), api.ErrMuch},
		{sealed(0, 9, 0, 0, 0, 9, 0, 0, 0, 0, 0, 0, 0, 1), api.ErrMuch},
		{sealed(1, 9, 1, 0, 0, 255), api.ErrMuch},
		{sealed(2, 9, 1, 0, 1, 0, 1), api.ErrForm},
		{sealed(2, 9, 1, 0, 1, 0, 0, 0, 0, 0, 0, 0, 0, 1), api.ErrForm},
		{sealed(2, 9, 1, 0, 1, 3, 'a', 'b', 'c', 'd'), api.ErrForm},
		{sealed(2, 9, 1, 0, 1, 7, 1, 2, 3, 4, 5, 6, 7, 8), api.ErrForm},
		{sealed(0, 9, 0, 0, 0, 0, 0, 1), api.ErrForm},
		{sealed(1, 9, 1, 0, 0, 0, 1), api.ErrForm},
		{sealed(3, 9, 1, 0, 1, 1, 'a', 'b'), api.ErrForm},
		{sealed(0, 9), api.ErrKind},
		{sealed(4, 9, 1, 0, 1), api.ErrKind},
		{sealed(255, 9), api.ErrKind},
		{sealed(4, 9, 0, 255, 255, 1, 'a'), api.ErrKind},
		{sealed(1, 9, 1), api.ErrRange},
		{sealed(1, 9, 0, 0, 1), api.ErrRange},
		{sealed(1, 9, 0, 1, 0), api.ErrRange},
		{sealed(1, 9, 1, 0, 0, 1, 'a'), api.ErrRange},
		{sealed(2, 9, 0, 0, 1), api.ErrRange},
		{sealed(2, 9, 1, 0, 0), api.ErrRange},
		{sealed(2, 9, 1, 234, 97), api.ErrRange},
		{sealed(3, 9, 1, 255, 255), api.ErrRange},
		{sealed(3, 9, 0, 0, 1, 1, 'a'), api.ErrRange},
		{sealed(1, 9, 0, 0, 0, 1, 'a'), api.ErrMuch},
		{sealed(1, 9, 0, 0, 0, 1, 0), api.ErrMuch},
		{sealed(3, 9, 1, 0, 1, 1, 'a'), api.ErrMuch},
		{sealed(3, 9, 1, 0, 1, 8), api.ErrMuch},
	} {
		if got, err := block.Read(c.b, 9); err != c.want || !isZero(got) {
			t.Errorf("Read(%v, 9) is %v, %d, not %d", c.b, got, err, c.want)
		}
		if got, err := block.Read(c.b, 8); err != api.ErrPlace || !isZero(got) {
			t.Errorf("Read(%v, 8) is %v, %d, not ErrPlace", c.b, got, err)
		}
		c.b[15] ^= 1
		if got, err := block.Read(c.b, 8); err != api.ErrSum || !isZero(got) {
			t.Errorf("Read(%v, 8), spoilt, is %v, %d, not ErrSum", c.b, got, err)
		}
	}
}

// What is read without an error is just what Bytes writes: a block's head is
// gone through, two parts of it at a time, each with a right sum.
func TestWhatIsReadIsWhatIsWritten(t *testing.T) {
	start := sealed(2, 9, 1, 0, 1, 2, 'a', 'b')
	values := []byte{0, 1, 2, 3, 4, 7, 8, 9, 10, 96, 97, 127, 128, 234, 235, 255}
	for i := range 14 {
		for j := range i {
			for _, x := range values {
				for _, y := range values {
					head := bytes.Clone(start[:14])
					head[i], head[j] = x, y
					b := sum.Seal(head)
					r, err := block.Read(b, 9)
					if err != api.OK {
						if !isZero(r) {
							t.Fatalf("Read(%v, 9) is %v beside %d", b, r, err)
						}
						continue
					}
					if again := block.Bytes(r, 9); !bytes.Equal(again, b) {
						t.Fatalf("Read(%v, 9) is %v, whose bytes are %v", b, r, again)
					}
				}
			}
		}
	}
}

func TestReadLeavesWhatItIsHanded(t *testing.T) {
	room := append(block.Bytes(data(7, 300, "abc"), 9), 1, 2, 3)
	kept := bytes.Clone(room)
	r, err := block.Read(room[:api.BlockSize], 9)
	if err != api.OK || !same(r, data(7, 300, "abc")) {
		t.Fatalf("with spare room behind, Read is %v, %d", r, err)
	}
	if !bytes.Equal(room, kept) {
		t.Fatalf("Read made %v of %v", room, kept)
	}
	clear(room)
	if string(r.Data) != "abc" {
		t.Errorf("the record changed with the block: %q", r.Data)
	}
	copy(room, kept)
	r.Data = append(r.Data, "defgh"...)
	clear(r.Data[:cap(r.Data)])
	if !bytes.Equal(room, kept) {
		t.Errorf("the block changed with the record: %v", room)
	}
}
