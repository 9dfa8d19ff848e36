package model_test

import (
	"bytes"
	"fmt"
	"math"
	"slices"
	"testing"

	"scrubstore/api"
	"scrubstore/block"
	"scrubstore/model"
)

func mark(key, version int) api.Record {
	return api.Record{Kind: api.KindMark, Key: key, Version: version}
}

func data(key, version int, s string) api.Record {
	return api.Record{Kind: api.KindData, Key: key, Version: version, Data: []byte(s)}
}

func put(key int, s string) api.Deed {
	return api.Deed{Kind: api.DeedPut, Key: key, Data: []byte(s)}
}

func del(key int) api.Deed { return api.Deed{Kind: api.DeedDelete, Key: key} }

func purge(key, n int) api.Deed { return api.Deed{Kind: api.DeedPurge, Key: key, N: n} }

// like is written out here once more, so that no test leans on package block.
func like(a, b api.Record) bool {
	return a.Kind == b.Kind && a.Key == b.Key && a.Version == b.Version && string(a.Data) == string(b.Data)
}

// same is whether a and b are alike, in turn.
func same(a, b []api.Record) bool { return slices.EqualFunc(a, b, like) }

// copyOf is a deep copy.
func copyOf(l []api.Record) []api.Record {
	var out []api.Record
	for _, r := range l {
		r.Data = bytes.Clone(r.Data)
		out = append(out, r)
	}
	return out
}

// roomyBytes are b, and spare room behind them with something in it.
func roomyBytes(b []byte) []byte { return append(bytes.Clone(b), "spare"...)[:len(b)] }

// roomy is l with spare room behind every list, and something in it.
func roomy(l []api.Record) []api.Record {
	var out []api.Record
	for _, r := range l {
		r.Data = roomyBytes(r.Data)
		out = append(out, r)
	}
	for n := range 9 {
		out = append(out, data(7, 50000+n, "spare"))
	}
	return out[:len(l)]
}

// reached is l with its spare room, and that behind its data.
func reached(l []api.Record) []api.Record {
	var out []api.Record
	for _, r := range l[:cap(l)] {
		r.Data = r.Data[:cap(r.Data)]
		out = append(out, r)
	}
	return copyOf(out)
}

// wipe turns all that can be reached from l, spare room too.
func wipe(l []api.Record) {
	l = l[:cap(l)]
	for i := range l {
		wipeBytes(l[i].Data)
		l[i] = mark(254, 40000)
	}
}

func wipeBytes(b []byte) {
	b = b[:cap(b)]
	for n := range b {
		b[n] ^= 255
	}
}

// some are records of few keys, in no order: of one key there are several, of
// one version too, of one key and of several.
func some() []api.Record {
	return []api.Record{
		data(7, 2, "x"), mark(8, 60000), data(7, 9, "aa"), mark(7, 9), data(255, 9, "12345678"), data(7, 2, ""), mark(7, 1),
	}
}

// lists are those of all choices of some, from none to more than MaxPairs.
func lists() [][]api.Record {
	var out [][]api.Record
	for bits := range 1 << len(some()) {
		var l []api.Record
		for n, r := range some() {
			if bits>>n&1 == 1 {
				l = append(l, r)
			}
		}
		out = append(out, l)
	}
	return append(out, []api.Record{}, slices.Concat(some(), some(), some()))
}

// rights are right deeds, at the edges of every limit and within.
func rights() []api.Deed {
	var out []api.Deed
	for _, key := range []int{1, 2, 7, 8, 254, 255} {
		out = append(out, del(key), api.Deed{Kind: api.DeedDelete, Key: key, Data: []byte{}})
		for _, n := range []int{1, 2, 9, 255, 256, 59999, 60000} {
			out = append(out, purge(key, n))
		}
		for _, s := range []string{"", "\x00", "a", "ab", "1234567", "12345678", "\x00\x00\x00\x00\x00\x00\x00\x00"} {
			out = append(out, put(key, s))
		}
	}
	return append(out, api.Deed{Kind: api.DeedPut, Key: 7}, api.Deed{Kind: api.DeedPurge, Key: 7, N: 2, Data: []byte{}})
}

type wrong struct {
	d    api.Deed
	want api.Errno
}

// wrongs are deeds that are not right; of some of them several errors fit.
func wrongs() []wrong {
	nine := []byte("123456789")
	var out []wrong
	for _, kind := range []int{0, -1, 4, 5, 257, 1 << 32, 1<<32 + 1, math.MinInt, math.MaxInt} {
		out = append(out,
			wrong{api.Deed{Kind: kind}, api.ErrKind},
			wrong{api.Deed{Kind: kind, Key: 7}, api.ErrKind},
			wrong{api.Deed{Kind: kind, Key: 7, N: 1}, api.ErrKind},
			wrong{api.Deed{Kind: kind, Key: 256, N: 60001, Data: nine}, api.ErrKind})
	}
	for _, n := range []int{0, -1, -7, 256, 257, 263, 1<<32 + 7, math.MinInt, math.MaxInt} {
		for _, b := range [][]byte{nil, nine} {
			out = append(out,
				wrong{api.Deed{Kind: api.DeedPut, Key: n, Data: b}, api.ErrRange},
				wrong{api.Deed{Kind: api.DeedDelete, Key: n, Data: b}, api.ErrRange},
				wrong{api.Deed{Kind: api.DeedPurge, Key: n, N: 1, Data: b}, api.ErrRange})
		}
	}
	for _, n := range []int{0, -1, 60001, 65535, 65537, math.MinInt, math.MaxInt} {
		out = append(out,
			wrong{api.Deed{Kind: api.DeedPurge, Key: 7, N: n}, api.ErrRange},
			wrong{api.Deed{Kind: api.DeedPurge, Key: 7, N: n, Data: nine}, api.ErrRange})
	}
	for _, n := range []int{1, -1, 2, 60000, 60001, math.MinInt, math.MaxInt} {
		for _, b := range [][]byte{nil, nine} {
			out = append(out,
				wrong{api.Deed{Kind: api.DeedPut, Key: 7, N: n, Data: b}, api.ErrRange},
				wrong{api.Deed{Kind: api.DeedDelete, Key: 7, N: n, Data: b}, api.ErrRange})
		}
	}
	for _, b := range [][]byte{nine, make([]byte, 9), make([]byte, 256), make([]byte, 264)} {
		out = append(out,
			wrong{api.Deed{Kind: api.DeedPut, Key: 7, Data: b}, api.ErrMuch},
			wrong{api.Deed{Kind: api.DeedDelete, Key: 7, Data: b}, api.ErrMuch},
			wrong{api.Deed{Kind: api.DeedPurge, Key: 7, N: 1, Data: b}, api.ErrMuch})
	}
	for _, b := range [][]byte{{0}, []byte("a"), []byte("12345678")} {
		out = append(out,
			wrong{api.Deed{Kind: api.DeedDelete, Key: 7, Data: b}, api.ErrMuch},
			wrong{api.Deed{Kind: api.DeedPurge, Key: 7, N: 1, Data: b}, api.ErrMuch})
	}
	return out
}

func TestOwnIsAllAlike(t *testing.T) {
	for _, l := range lists() {
		if got := model.Own(l); !same(got, l) {
			t.Errorf("Own(%v) is %v", l, got)
		}
	}
}

func TestWrongOfRightDeeds(t *testing.T) {
	for _, d := range rights() {
		if err := model.Wrong(d); err != api.OK {
			t.Errorf("Wrong(%v) is %d", d, err)
		}
	}
}

func TestWrongOfEveryKeyAndVersion(t *testing.T) {
	for key := -2; key < 600; key++ {
		want := api.ErrRange
		if 1 <= key && key <= 255 {
			want = api.OK
		}
		for _, d := range []api.Deed{put(key, "a"), del(key), purge(key, 1)} {
			if err := model.Wrong(d); err != want {
				t.Errorf("Wrong(%v) is %d, not %d", d, err, want)
			}
		}
	}
	for n := -2; n < 66000; n++ {
		want := api.ErrRange
		if 1 <= n && n <= 60000 {
			want = api.OK
		}
		if err := model.Wrong(purge(7, n)); err != want {
			t.Errorf("Wrong of a purge of version %d is %d, not %d", n, err, want)
		}
	}
}

func TestWrongOfWrongDeeds(t *testing.T) {
	for _, w := range wrongs() {
		if err := model.Wrong(w.d); err != w.want {
			t.Errorf("Wrong(%v) is %d, not %d", w.d, err, w.want)
		}
	}
}

func TestWrongOfDataBySize(t *testing.T) {
	for n := range 20 {
		want, wantOfOthers := api.OK, api.OK
		if n > 8 {
			want = api.ErrMuch
		}
		if n > 0 {
			wantOfOthers = api.ErrMuch
		}
		b := make([]byte, n, 40)
		if err := model.Wrong(api.Deed{Kind: api.DeedPut, Key: 7, Data: b}); err != want {
			t.Errorf("of a put of %d bytes it is %d, not %d", n, err, want)
		}
		for _, d := range []api.Deed{{Kind: api.DeedDelete, Key: 7, Data: b}, {Kind: api.DeedPurge, Key: 7, N: 1, Data: b}} {
			if err := model.Wrong(d); err != wantOfOthers {
				t.Errorf("of kind %d with %d bytes it is %d, not %d", d.Kind, n, err, wantOfOthers)
			}
		}
	}
}

func TestNextKnownLists(t *testing.T) {
	for i, c := range []struct {
		l    []api.Record
		want int
	}{
		{nil, 1},
		{[]api.Record{}, 1},
		{[]api.Record{data(7, 1, "")}, 2},
		{[]api.Record{mark(7, 1)}, 2},
		{[]api.Record{mark(7, 300)}, 301},
		{[]api.Record{data(7, 5, ""), data(7, 2, "")}, 6},
		{[]api.Record{data(7, 2, ""), data(7, 5, "")}, 6},
		{[]api.Record{data(7, 2, ""), mark(8, 9), data(9, 4, "")}, 10},
		{[]api.Record{data(7, 9, ""), mark(7, 9)}, 10},
		{[]api.Record{mark(255, 1), mark(1, 2)}, 3},
		{[]api.Record{mark(1, 255), mark(1, 256)}, 257},
		{[]api.Record{mark(1, 59999)}, 60000},
		{[]api.Record{mark(1, 60000), mark(1, 3)}, 60001},
	} {
		if n := model.Next(c.l); n != c.want {
			t.Errorf("%d: of %v it is %d, not %d", i, c.l, n, c.want)
		}
	}
}

func TestNextIsGreaterThanAll(t *testing.T) {
	for _, l := range lists() {
		n := model.Next(l)
		reaches := n == 1
		for _, r := range l {
			if r.Version >= n {
				t.Errorf("of %v it is %d", l, n)
			}
			reaches = reaches || r.Version == n-1
		}
		if !reaches {
			t.Errorf("of %v it is %d, and no version is one less", l, n)
		}
	}
}

func TestMadeKnownDeeds(t *testing.T) {
	for _, c := range []struct {
		d       api.Deed
		version int
		want    api.Record
	}{
		{put(7, "ab"), 3, data(7, 3, "ab")},
		{put(1, ""), 1, data(1, 1, "")},
		{api.Deed{Kind: api.DeedPut, Key: 1}, 1, data(1, 1, "")},
		{put(255, "12345678"), 60000, data(255, 60000, "12345678")},
		{put(9, "\x00\xff"), 256, data(9, 256, "\x00\xff")},
		{del(7), 3, mark(7, 3)},
		{del(1), 1, mark(1, 1)},
		{del(255), 60000, mark(255, 60000)},
	} {
		r := model.Made(c.d, c.version)
		if !like(r, c.want) {
			t.Errorf("Made(%v, %d) is %v, not %v", c.d, c.version, r, c.want)
		}
		if err := block.Wrong(r); err != api.OK {
			t.Errorf("Made(%v, %d) is not right: %d", c.d, c.version, err)
		}
	}
}

func TestMadeOwnsItsData(t *testing.T) {
	b := roomyBytes([]byte("abcd"))
	r := model.Made(api.Deed{Kind: api.DeedPut, Key: 7, Data: b}, 3)
	wipeBytes(b)
	if string(r.Data) != "abcd" {
		t.Errorf("it changed with the deed, to %v", r)
	}
	kept := bytes.Clone(b[:cap(b)])
	wipeBytes(r.Data)
	if !bytes.Equal(b[:cap(b)], kept) {
		t.Error("the deed, or its spare room, changed with the record")
	}
}

// The document says nothing of what deeds that are not right are made into; a
// mark has no data whatever the deed has, and other kinds make no right record.
func TestMadeOfWrongDeeds(t *testing.T) {
	r := model.Made(api.Deed{Kind: api.DeedDelete, Key: 7, N: 5, Data: []byte("ab")}, 3)
	if !like(r, mark(7, 3)) {
		t.Errorf("a delete with data makes %v", r)
	}
	for _, d := range []api.Deed{purge(7, 1), {}, {Kind: 4, Key: 7, Data: []byte("ab")}, {Kind: -1, Key: 7}} {
		if r := model.Made(d, 3); !like(r, api.Record{}) {
			t.Errorf("%v makes %v", d, r)
		}
	}
	for _, w := range wrongs() {
		for _, version := range []int{0, -1, 60001, math.MinInt, math.MaxInt} {
			model.Made(w.d, version)
		}
	}
}

// wanted is what Do must answer, worked out from the words of the chapter.
func wanted(l []api.Record, d api.Deed) ([]api.Record, int, api.Errno) {
	if d.Kind == api.DeedPurge {
		for i, r := range l {
			if r.Key == d.Key && r.Version == d.N {
				return append(copyOf(l[:i]), l[i+1:]...), d.N, api.OK
			}
		}
		return l, 0, api.ErrNone
	}
	top := 0
	for _, r := range l {
		top = max(top, r.Version)
	}
	r := mark(d.Key, top+1)
	if d.Kind == api.DeedPut {
		r = data(d.Key, top+1, string(d.Data))
	}
	switch {
	case len(l) >= 6:
		return l, 0, api.ErrFull
	case top+1 > 60000:
		return l, 0, api.ErrMuch
	}
	return append(copyOf(l), r), top + 1, api.OK
}

func TestDoOfEveryDeed(t *testing.T) {
	for _, l := range lists() {
		for _, d := range rights() {
			got, n, err := model.Do(l, d)
			want, wantN, wantErr := wanted(l, d)
			if !same(got, want) || n != wantN || err != wantErr {
				t.Errorf("Do(%v, %v) is %v, %d, %d, not %v, %d, %d", l, d, got, n, err, want, wantN, wantErr)
			}
		}
	}
}

type done struct {
	d    api.Deed
	n    int
	err  api.Errno
	then string
}

// told is l, in few words.
func told(l []api.Record) string {
	s := ""
	for _, r := range l {
		s += fmt.Sprintf("%d.%d%s ", r.Key, r.Version, map[int]string{api.KindData: "=" + string(r.Data), api.KindMark: "!"}[r.Kind])
	}
	return s
}

func run(t *testing.T, l []api.Record, deeds []done) {
	t.Helper()
	for i, x := range deeds {
		got, n, err := model.Do(l, x.d)
		if told(got) != x.then || n != x.n || err != x.err {
			t.Errorf("deed %d, %v: it is %s%d, %d, not %s%d, %d", i, x.d, told(got), n, err, x.then, x.n, x.err)
		}
		l = got
	}
}

func TestDoKnownDeeds(t *testing.T) {
	run(t, nil, []done{
		{purge(7, 1), 0, api.ErrNone, ""},
		{put(7, "a"), 1, api.OK, "7.1=a "},
		{put(7, "a"), 2, api.OK, "7.1=a 7.2=a "},
		{del(9), 3, api.OK, "7.1=a 7.2=a 9.3! "},
		{purge(7, 3), 0, api.ErrNone, "7.1=a 7.2=a 9.3! "},
		{purge(9, 1), 0, api.ErrNone, "7.1=a 7.2=a 9.3! "},
		{put(1, ""), 4, api.OK, "7.1=a 7.2=a 9.3! 1.4= "},
		{purge(7, 2), 2, api.OK, "7.1=a 9.3! 1.4= "},
		{purge(7, 2), 0, api.ErrNone, "7.1=a 9.3! 1.4= "},
		{put(7, "b"), 5, api.OK, "7.1=a 9.3! 1.4= 7.5=b "},
		{purge(9, 3), 3, api.OK, "7.1=a 1.4= 7.5=b "},
		{purge(7, 5), 5, api.OK, "7.1=a 1.4= "},
		{del(7), 5, api.OK, "7.1=a 1.4= 7.5! "},
		{purge(7, 1), 1, api.OK, "1.4= 7.5! "},
		{purge(7, 5), 5, api.OK, "1.4= "},
		{purge(1, 4), 4, api.OK, ""},
		{del(2), 1, api.OK, "2.1! "},
	})
}

func TestDoWhereItIsFull(t *testing.T) {
	full := "1.1=a 2.2=b 3.3! 1.4=c 1.5! 9.6= "
	run(t, nil, []done{
		{put(1, "a"), 1, api.OK, "1.1=a "},
		{put(2, "b"), 2, api.OK, "1.1=a 2.2=b "},
		{del(3), 3, api.OK, "1.1=a 2.2=b 3.3! "},
		{put(1, "c"), 4, api.OK, "1.1=a 2.2=b 3.3! 1.4=c "},
		{del(1), 5, api.OK, "1.1=a 2.2=b 3.3! 1.4=c 1.5! "},
		{put(9, ""), 6, api.OK, full},
		{put(9, ""), 0, api.ErrFull, full},
		{del(1), 0, api.ErrFull, full},
		{purge(9, 7), 0, api.ErrNone, full},
		{purge(3, 3), 3, api.OK, "1.1=a 2.2=b 1.4=c 1.5! 9.6= "},
		{del(9), 7, api.OK, "1.1=a 2.2=b 1.4=c 1.5! 9.6= 9.7! "},
		{del(9), 0, api.ErrFull, "1.1=a 2.2=b 1.4=c 1.5! 9.6= 9.7! "},
	})
}

func TestDoAtTheLastVersion(t *testing.T) {
	run(t, []api.Record{data(1, 59999, "a")}, []done{
		{del(2), 60000, api.OK, "1.59999=a 2.60000! "},
		{put(1, "b"), 0, api.ErrMuch, "1.59999=a 2.60000! "},
		{del(1), 0, api.ErrMuch, "1.59999=a 2.60000! "},
		{purge(1, 60000), 0, api.ErrNone, "1.59999=a 2.60000! "},
		{purge(1, 59999), 59999, api.OK, "2.60000! "},
		{put(1, "b"), 0, api.ErrMuch, "2.60000! "},
		{purge(2, 60000), 60000, api.OK, ""},
		{put(1, "b"), 1, api.OK, "1.1=b "},
	})
}

// Of both errors the one that the chapter names first is told.
func TestDoWhereItIsFullAtTheLastVersion(t *testing.T) {
	l := []api.Record{mark(1, 1), mark(1, 2), mark(1, 60000), mark(1, 3), mark(1, 4)}
	run(t, l, []done{{put(7, "a"), 0, api.ErrMuch, told(l)}})
	l = append(l, mark(1, 5))
	run(t, l, []done{{put(7, "a"), 0, api.ErrFull, told(l)}, {del(7), 0, api.ErrFull, told(l)}})
	l = append(l, mark(1, 6))
	run(t, l, []done{{put(7, "a"), 0, api.ErrFull, told(l)}, {purge(1, 60000), 60000, api.OK, "1.1! 1.2! 1.3! 1.4! 1.5! 1.6! "}})
}

func TestPurgeTakesTheFirstOfSeveral(t *testing.T) {
	run(t, []api.Record{data(8, 2, "z"), data(7, 2, "x"), mark(7, 2), data(7, 2, "y"), data(7, 3, "x")}, []done{
		{purge(7, 2), 2, api.OK, "8.2=z 7.2! 7.2=y 7.3=x "},
		{purge(7, 2), 2, api.OK, "8.2=z 7.2=y 7.3=x "},
		{purge(7, 2), 2, api.OK, "8.2=z 7.3=x "},
		{purge(7, 2), 0, api.ErrNone, "8.2=z 7.3=x "},
		{purge(8, 2), 2, api.OK, "7.3=x "},
	})
}

// The document says nothing of what deeds that are not right do; nothing may
// come of them.
func TestDoOfWrongDeeds(t *testing.T) {
	for _, l := range lists() {
		for _, w := range wrongs() {
			got, n, err := model.Do(l, w.d)
			if !same(got, l) || n != 0 || err != w.want {
				t.Errorf("Do(%v, %v) is %v, %d, %d", l, w.d, got, n, err)
			}
		}
	}
}

func TestGetKnownKeys(t *testing.T) {
	l := []api.Record{data(7, 5, "new"), data(7, 2, "old"), mark(8, 9), data(8, 3, "gone"), data(9, 1, ""), mark(9, 6), data(9, 7, "back"), data(255, 8, ""), mark(1, 4), data(1, 60000, "12345678")}
	for _, c := range []struct {
		key  int
		want string
		err  api.Errno
	}{
		{7, "new", api.OK},
		{8, "", api.ErrGone},
		{9, "back", api.OK},
		{255, "", api.OK},
		{1, "12345678", api.OK},
		{2, "", api.ErrNone},
		{254, "", api.ErrNone},
		{0, "", api.ErrNone},
		{-7, "", api.ErrNone},
		{256, "", api.ErrNone},
		{263, "", api.ErrNone},
		{math.MinInt, "", api.ErrNone},
		{math.MaxInt, "", api.ErrNone},
	} {
		b, err := model.Get(l, c.key)
		if string(b) != c.want || err != c.err {
			t.Errorf("of key %d it is %q, %d, not %q, %d", c.key, b, err, c.want, c.err)
		}
		if err != api.OK && len(b) != 0 {
			t.Errorf("of key %d there are bytes beside an error", c.key)
		}
		for _, none := range [][]api.Record{nil, {}} {
			if b, err := model.Get(none, c.key); len(b) != 0 || err != api.ErrNone {
				t.Errorf("without records key %d is %q, %d", c.key, b, err)
			}
		}
	}
}

func TestGetTellsTheFirstOfSeveral(t *testing.T) {
	for _, c := range []struct {
		l    []api.Record
		want string
		err  api.Errno
	}{
		{[]api.Record{data(7, 1, "z"), data(7, 9, "x"), data(7, 9, "y"), mark(7, 9)}, "x", api.OK},
		{[]api.Record{data(7, 9, "y"), data(7, 9, "x"), data(7, 1, "z")}, "y", api.OK},
		{[]api.Record{mark(7, 9), data(7, 9, "x")}, "", api.ErrGone},
		{[]api.Record{data(7, 9, "x"), mark(7, 9)}, "x", api.OK},
		{[]api.Record{data(8, 9, "a"), data(7, 9, "x"), data(8, 10, "b")}, "x", api.OK},
	} {
		if b, err := model.Get(c.l, 7); string(b) != c.want || err != c.err {
			t.Errorf("of %v it is %q, %d", c.l, b, err)
		}
	}
}

// A key that was put, and deleted, is gone; its older version is there, and is
// told again once the mark is purged.
func TestGetBehindDeeds(t *testing.T) {
	var l []api.Record
	for i, c := range []struct {
		d    api.Deed
		want string
		err  api.Errno
	}{
		{put(8, "other"), "", api.ErrNone},
		{put(7, "a"), "a", api.OK},
		{del(7), "", api.ErrGone},
		{purge(7, 2), "", api.ErrGone},
		{del(8), "", api.ErrGone},
		{put(7, "b"), "b", api.OK},
		{purge(7, 4), "b", api.OK},
		{purge(7, 5), "", api.ErrGone},
	} {
		l, _, _ = model.Do(l, c.d)
		if b, err := model.Get(l, 7); string(b) != c.want || err != c.err {
			t.Errorf("behind deed %d it is %q, %d, not %q, %d", i, b, err, c.want, c.err)
		}
	}
	for _, d := range []api.Deed{purge(8, 1), put(7, "c"), purge(7, 3), purge(7, 5)} {
		l, _, _ = model.Do(l, d)
	}
	if b, err := model.Get(l, 7); len(b) != 0 || err != api.ErrNone {
		t.Errorf("where all is purged it is %q, %d", b, err)
	}
}

func TestPutIsTold(t *testing.T) {
	for _, l := range lists() {
		for _, s := range []string{"", "\x00", "ab", "12345678"} {
			then, n, err := model.Do(l, put(7, s))
			if err != api.OK {
				continue
			}
			if b, err := model.Get(then, 7); string(b) != s || err != api.OK {
				t.Errorf("%v: %q was put, and %q, %d is told", l, s, b, err)
			}
			if back, _, err := model.Do(then, purge(7, n)); !same(back, l) || err != api.OK {
				t.Errorf("%v: put, and purged, it is %v, %d", l, back, err)
			}
			gone, _, err := model.Do(then, del(7))
			if _, told := model.Get(gone, 7); err == api.OK && told != api.ErrGone {
				t.Errorf("%v: deleted, it is told with %d", l, told)
			}
		}
	}
}

func TestSameKnownLists(t *testing.T) {
	a, b, c := data(7, 1, "a"), data(7, 2, "a"), mark(8, 3)
	for i, x := range []struct {
		a, b []api.Record
		want bool
	}{
		{nil, nil, true},
		{nil, []api.Record{}, true},
		{[]api.Record{}, nil, true},
		{nil, []api.Record{a}, false},
		{[]api.Record{a}, nil, false},
		{[]api.Record{a}, []api.Record{a}, true},
		{[]api.Record{a}, []api.Record{b}, false},
		{[]api.Record{a, b}, []api.Record{a}, false},
		{[]api.Record{a}, []api.Record{a, b}, false},
		{[]api.Record{a}, []api.Record{a, a}, false},
		{[]api.Record{a, a}, []api.Record{a}, false},
		{[]api.Record{a, b, c}, []api.Record{c, a, b}, true},
		{[]api.Record{a, b, c}, []api.Record{c, b, a}, true},
		{[]api.Record{a, b}, []api.Record{a, c}, false},
		{[]api.Record{b, a}, []api.Record{c, a}, false},
		{[]api.Record{a, a}, []api.Record{a, a}, true},
	} {
		if got := model.Same(x.a, x.b); got != x.want {
			t.Errorf("%d: Same(%v, %v) is %v", i, x.a, x.b, got)
		}
	}
}

// Each of the one is asked for, and how many there are: not how often one is.
func TestSameOfOneThatIsTwice(t *testing.T) {
	a, b := data(7, 1, "a"), data(7, 2, "a")
	if !model.Same([]api.Record{a, a}, []api.Record{a, b}) {
		t.Error("each of the first is among the second, and there are two, but it is false")
	}
	if model.Same([]api.Record{a, b}, []api.Record{a, a}) {
		t.Error("one of the first is not among the second, but it is true")
	}
}

func TestSameAsksForEveryField(t *testing.T) {
	r := data(7, 300, "abc")
	if !model.Same([]api.Record{r}, []api.Record{data(7, 300, "abc")}) {
		t.Error("records alike in other memory are not the Same")
	}
	for _, other := range []api.Record{
		{Kind: api.KindMark, Key: 7, Version: 300, Data: []byte("abc")},
		data(8, 300, "abc"), data(7, 301, "abc"), data(7, 300, "abd"), data(7, 300, "ab"), data(7, 300, "abc\x00"), data(7, 300, ""), mark(7, 300),
	} {
		if model.Same([]api.Record{r}, []api.Record{other}) || model.Same([]api.Record{other}, []api.Record{r}) {
			t.Errorf("%v and %v are the Same", r, other)
		}
	}
	if !model.Same([]api.Record{{Kind: api.KindData, Key: 1, Version: 1}}, []api.Record{data(1, 1, "")}) {
		t.Error("data that is nil, and data without bytes, are not the Same")
	}
}

func TestSameOfAllLists(t *testing.T) {
	for _, a := range lists() {
		back := copyOf(a)
		slices.Reverse(back)
		if !model.Same(a, back) || !model.Same(back, a) {
			t.Errorf("%v, and in the other order, are not the Same", a)
		}
		for _, b := range lists() {
			// Each of these lists has no record twice, but for the longest one,
			// which no other is as long as: in turn, they are the Same or not.
			if got, want := model.Same(a, b), same(a, b); got != want {
				t.Errorf("Same(%v, %v) is %v", a, b, got)
			}
		}
	}
}

type call struct {
	name string
	do   func([]api.Record) []api.Record
}

// number is n, told as a list of records.
func number(n int) []api.Record { return []api.Record{mark(0, n)} }

// calls are all that take records; what they answer is told as a list.
func calls() []call {
	do := func(d api.Deed) func([]api.Record) []api.Record {
		return func(l []api.Record) []api.Record {
			got, _, _ := model.Do(l, d)
			return got
		}
	}
	get := func(key int) func([]api.Record) []api.Record {
		return func(l []api.Record) []api.Record {
			b, err := model.Get(l, key)
			return []api.Record{{Kind: int(err), Data: b}}
		}
	}
	truth := func(ok bool) []api.Record {
		if ok {
			return number(1)
		}
		return number(0)
	}
	return []call{
		{"Own", model.Own},
		{"Next", func(l []api.Record) []api.Record { return number(model.Next(l)) }},
		{"put", do(put(7, "ab"))},
		{"put of nothing", do(put(1, ""))},
		{"delete", do(del(7))},
		{"purge", do(purge(7, 9))},
		{"purge of the first", do(purge(7, 2))},
		{"purge of none", do(purge(6, 9))},
		{"wrong deed", do(api.Deed{Kind: 4})},
		{"Get", get(7)},
		{"Get of the greatest", get(255)},
		{"Get of what is gone", get(8)},
		{"Get of none", get(6)},
		{"Same, handed first", func(l []api.Record) []api.Record { return truth(model.Same(l, some()[:6])) }},
		{"Same, handed second", func(l []api.Record) []api.Record { return truth(model.Same(some()[:6], l)) }},
		{"Same, handed twice", func(l []api.Record) []api.Record { return truth(model.Same(l, l)) }},
	}
}

func TestNoCallChangesOrKeepsTheRecordsItIsHanded(t *testing.T) {
	for _, c := range calls() {
		for _, plain := range lists() {
			want := copyOf(c.do(plain))
			given := roomy(plain)
			room := reached(given)
			got := c.do(given)
			if !same(got, want) {
				t.Errorf("%s: of %v with spare room behind it is %v, not %v", c.name, plain, got, want)
			}
			if !same(reached(given), room) {
				t.Errorf("%s: what was handed in, %v, is changed", c.name, plain)
			}
			wipe(got)
			if !same(reached(given), room) {
				t.Errorf("%s: what was handed in, %v, changed with the answer", c.name, plain)
			}
			got = c.do(given)
			wipe(given)
			if !same(got, want) {
				t.Errorf("%s: the answer of %v changed with what was handed in", c.name, plain)
			}
		}
	}
}

func TestListsOfAnAnswerShareNoMemory(t *testing.T) {
	for _, c := range calls() {
		for _, l := range lists() {
			got := c.do(l)
			for i, r := range got {
				want := copyOf(got)
				wipeBytes(r.Data)
				want[i].Data = bytes.Clone(r.Data)
				if !same(got, want) {
					t.Errorf("%s: of %v record %d shares memory with another one", c.name, l, i)
				}
			}
		}
	}
}

func TestDoOwnsTheDeedsData(t *testing.T) {
	b := roomyBytes([]byte("abcd"))
	l, _, _ := model.Do(some()[2:4], api.Deed{Kind: api.DeedPut, Key: 7, Data: b})
	wipeBytes(b)
	if len(l) != 3 || string(l[2].Data) != "abcd" {
		t.Errorf("it changed with the deed, to %v", l)
	}
	kept := bytes.Clone(b[:cap(b)])
	wipe(l)
	if !bytes.Equal(b[:cap(b)], kept) {
		t.Error("the deed, or its spare room, changed with the records")
	}
}

func TestNilAndEmptyAreTheSame(t *testing.T) {
	for _, c := range calls() {
		if a, b := c.do(nil), c.do([]api.Record{}); !same(a, b) {
			t.Errorf("%s: of nil it is %v, of an empty list %v", c.name, a, b)
		}
	}
}

// The document says nothing of records that are free, or not right; a call must
// still end without a panic, and leave what it is handed.
func TestWhatAreNoRightRecords(t *testing.T) {
	for i, l := range [][]api.Record{
		{{}},
		{{Kind: api.KindFree}, mark(7, 9), {Kind: api.KindFree}},
		{mark(7, math.MaxInt), mark(7, math.MinInt), mark(7, 0)},
		{mark(math.MaxInt, -1), data(math.MinInt, -2, "more than eight bytes"), {Kind: -1}},
	} {
		kept := copyOf(l)
		for _, c := range calls() {
			c.do(l)
			if !same(l, kept) {
				t.Errorf("%d: %s changed what was handed in", i, c.name)
			}
		}
	}
}
