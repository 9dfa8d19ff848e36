package play_test

import (
	"bytes"
	"fmt"
	"math"
	"slices"
	"testing"

	"scrubstore/api"
	"scrubstore/model"
	"scrubstore/play"
	"scrubstore/scrub"
	"scrubstore/store"
)

func free() api.Record { return api.Record{Kind: api.KindFree} }

func mark(key, version int) api.Record {
	return api.Record{Kind: api.KindMark, Key: key, Version: version}
}

func data(key, version int, s string) api.Record {
	return api.Record{Kind: api.KindData, Key: key, Version: version, Data: []byte(s)}
}

func put(key int, s string) api.Deed {
	return api.Deed{Kind: api.DeedPut, Key: key, Data: []byte(s)}
}

func del(key int) api.Deed { return api.Deed{Kind: api.DeedDelete, Key: key} }

func purge(key, n int) api.Deed { return api.Deed{Kind: api.DeedPurge, Key: key, N: n} }

func deed(d api.Deed) api.Step { return api.Step{Kind: api.StepDeed, Deed: d} }

func fall(d api.Deed, bits int) api.Step { return api.Step{Kind: api.StepFall, N: bits, Deed: d} }

func spoil(n, by int) api.Step { return api.Step{Kind: api.StepSpoil, N: n, M: by} }

func scrubbing() api.Step { return api.Step{Kind: api.StepScrub} }

func check() api.Step { return api.Step{Kind: api.StepCheck} }

func mount() api.Step { return api.Step{Kind: api.StepMount} }

// written is the block of r at a place, with its sum, written out here once
// more so that what must come leans on no package of the program.
func written(r api.Record, at int) []byte {
	b := []byte{byte(r.Kind), byte(at), byte(r.Key), byte(r.Version / 256), byte(r.Version % 256), byte(len(r.Data))}
	b = append(b, r.Data...)
	b = append(b, make([]byte, 14-len(b))...)
	n := 3
	for _, x := range b {
		n = (n*131 + int(x) + 1) % 65521
	}
	return append(b, byte(n/256), byte(n%256))
}

// right is whether a block may tell r.
func right(r api.Record) bool {
	if r.Kind == api.KindFree {
		return r.Key == 0 && r.Version == 0 && len(r.Data) == 0
	}
	return r.Key > 0 && r.Version > 0 && r.Version <= 60000 && (r.Kind == api.KindData || r.Kind == api.KindMark && len(r.Data) == 0)
}

// read is the record of which b is the block at a place.
func read(b []byte, at int) (api.Record, bool) {
	if len(b) != 16 || b[5] > 8 {
		return api.Record{}, false
	}
	r := api.Record{Kind: int(b[0]), Key: int(b[2]), Version: int(b[3])*256 + int(b[4]), Data: b[6 : 6+b[5]]}
	return r, right(r) && bytes.Equal(b, written(r, at))
}

// last is what was last written to a block.
func last(d api.Disk, at int) []byte {
	b := d.Blocks[at]
	for _, w := range d.Late {
		if w.At == at {
			b = w.Data
		}
	}
	return b
}

// look is how pair p is, and what it tells, by the words of chapter 4.
func look(d api.Disk, p int) (int, api.Record) {
	a, okA := read(last(d, 2*p), 2*p)
	b, okB := read(last(d, 2*p+1), 2*p+1)
	tellsA, tellsB := okA && a.Kind != api.KindFree, okB && b.Kind != api.KindFree
	switch {
	case tellsA && tellsB && same(a, b):
		return api.PairBoth, a
	case tellsA && tellsB:
		return api.PairClash, a
	case tellsA:
		return api.PairOne, a
	case tellsB:
		return api.PairOne, b
	case okA && okB:
		return api.PairFree, free()
	case okA || okB:
		return api.PairEmpty, free()
	}
	return api.PairLost, free()
}

// with has late writes of r to pair p, behind those of d.
func with(d api.Disk, p int, r api.Record) api.Disk {
	d.Late = append(slices.Clone(d.Late), api.Write{At: 2 * p, Data: written(r, 2*p)}, api.Write{At: 2*p + 1, Data: written(r, 2*p+1)})
	return d
}

// landed is d when those late writes have come that are wanted.
func landed(d api.Disk, wanted func(i int) bool) api.Disk {
	blocks := slices.Clone(d.Blocks)
	for i, w := range d.Late {
		if wanted(i) {
			blocks[w.At] = w.Data
		}
	}
	return api.Disk{Blocks: blocks}
}

func all(int) bool { return true }

func none(int) bool { return false }

// ahead is whether a stands ahead of b in an index.
func ahead(a, b api.Entry) bool {
	switch {
	case a.Record.Key != b.Record.Key:
		return a.Record.Key < b.Record.Key
	case a.Record.Version != b.Record.Version:
		return a.Record.Version < b.Record.Version
	}
	return a.Pair < b.Pair
}

// added is the index l with e at its place.
func added(l []api.Entry, e api.Entry) []api.Entry {
	at := 0
	for at < len(l) && ahead(l[at], e) {
		at++
	}
	return slices.Insert(slices.Clone(l), at, e)
}

// scanned is the index of d.
func scanned(d api.Disk) []api.Entry {
	var l []api.Entry
	for p := range 6 {
		if _, r := look(d, p); r.Kind != api.KindFree {
			l = added(l, api.Entry{Record: r, Pair: p})
		}
	}
	return l
}

// mounted is the store that starts anew with d.
func mounted(d api.Disk) api.Store {
	d = landed(d, none)
	return api.Store{Disk: d, Index: scanned(d)}
}

// mended is d with pair p mended.
func mended(d api.Disk, p int) api.Disk {
	if how, r := look(d, p); how != api.PairFree && how != api.PairBoth {
		return with(d, p, r)
	}
	return d
}

// cleaned is d in order, by the words of chapter 10.
func cleaned(d api.Disk) api.Disk {
	d = landed(d, none)
	for p := range 6 {
		d = mended(d, p)
	}
	twice := map[int]bool{}
	out := d
	for p := range 6 {
		_, r := look(d, p)
		if twice[r.Version] {
			out = with(out, p, free())
		}
		twice[r.Version] = r.Kind != api.KindFree
	}
	return landed(out, all)
}

// wrong is what is wrong with a deed, by the words of chapter 6.
func wrong(d api.Deed) api.Errno {
	purges := d.Kind == api.DeedPurge
	switch {
	case d.Kind < 1 || d.Kind > 3:
		return api.ErrKind
	case d.Key < 1 || d.Key > 255 || purges && (d.N < 1 || d.N > 60000) || !purges && d.N != 0:
		return api.ErrRange
	case len(d.Data) > 8 || d.Kind != api.DeedPut && len(d.Data) > 0:
		return api.ErrMuch
	}
	return api.OK
}

// begun is what Begin must answer, by the words of chapters 6 and 8.
func begun(s api.Store, d api.Deed) (api.Store, int, api.Errno) {
	if err := wrong(d); err != api.OK {
		return s, 0, err
	}
	if d.Kind == api.DeedPurge {
		for i, e := range s.Index {
			if e.Record.Key == d.Key && e.Record.Version == d.N {
				return api.Store{Disk: with(s.Disk, e.Pair, free()), Index: slices.Delete(slices.Clone(s.Index), i, i+1), Next: s.Next}, d.N, api.OK
			}
		}
		return s, 0, api.ErrNone
	}
	n, p := 1, 0
	for _, e := range s.Index {
		n = max(n, e.Record.Version+1)
	}
	for slices.ContainsFunc(s.Index, func(e api.Entry) bool { return e.Pair == p }) {
		p++
	}
	switch {
	case p == 6:
		return s, 0, api.ErrFull
	case n > 60000:
		return s, 0, api.ErrMuch
	}
	r := mark(d.Key, n)
	if d.Kind == api.DeedPut {
		r = data(d.Key, n, string(d.Data))
	}
	return api.Store{Disk: with(s.Disk, p, r), Index: added(s.Index, api.Entry{Record: r, Pair: p}), Next: s.Next}, n, api.OK
}

// wanted is what Do must answer, by the words of chapter 11.
func wanted(s api.Store, x api.Step) (api.Store, int, api.Errno) {
	s = copyOf(s)
	switch x.Kind {
	case api.StepDeed:
		done, n, err := begun(s, x.Deed)
		if err == api.OK {
			done.Disk = landed(done.Disk, all)
		}
		return done, n, err
	case api.StepFall:
		fallen, n, err := begun(s, x.Deed)
		if err == api.OK {
			fallen = mounted(landed(fallen.Disk, func(i int) bool { return i < 60 && x.N>>i&1 == 1 }))
		}
		return fallen, n, err
	case api.StepSpoil:
		if x.N < 0 || x.N > 191 {
			return s, 0, api.ErrRange
		}
		s.Disk.Blocks[x.N/16][x.N%16] ^= byte(x.M)
		return s, 0, api.OK
	case api.StepScrub:
		d := landed(mended(s.Disk, s.Next), all)
		return api.Store{Disk: d, Index: scanned(d), Next: (s.Next + 1) % 6}, 0, api.OK
	case api.StepCheck:
		return mounted(cleaned(s.Disk)), 0, api.OK
	case api.StepMount:
		return mounted(s.Disk), 0, api.OK
	}
	return s, 0, api.ErrKind
}

// copyOf is a deep copy, made without package store.
func copyOf(s api.Store) api.Store {
	out := api.Store{Next: s.Next}
	for _, b := range s.Disk.Blocks {
		out.Disk.Blocks = append(out.Disk.Blocks, bytes.Clone(b))
	}
	for _, w := range s.Disk.Late {
		out.Disk.Late = append(out.Disk.Late, api.Write{At: w.At, Data: bytes.Clone(w.Data)})
	}
	for _, e := range s.Index {
		e.Record.Data = bytes.Clone(e.Record.Data)
		out.Index = append(out.Index, e)
	}
	return out
}

// same is whether a and b are alike in all that they have; nil and empty lists
// are told alike.
func same(a, b any) bool { return fmt.Sprint(a) == fmt.Sprint(b) }

// told is the index of s, in few words.
func told(s api.Store) string {
	text := ""
	for _, e := range s.Index {
		r := e.Record
		text += fmt.Sprintf("%d.%d%s@%d ", r.Key, r.Version, map[int]string{api.KindData: "=" + string(r.Data), api.KindMark: "!"}[r.Kind], e.Pair)
	}
	return text
}

// holding is the store whose pairs tell these records, twice; those of kind 0,
// and those behind, are free.
func holding(next int, records ...api.Record) api.Store {
	s := api.Store{Next: next}
	for p := range 6 {
		r := free()
		if p < len(records) && records[p].Kind != 0 {
			r = records[p]
		}
		s.Disk.Blocks = append(s.Disk.Blocks, written(r, 2*p), written(r, 2*p+1))
	}
	s.Index = scanned(s.Disk)
	return copyOf(s)
}

// rotten is s with a byte of these blocks turned; its index knows nothing of
// that.
func rotten(s api.Store, blocks ...int) api.Store {
	s = copyOf(s)
	for _, at := range blocks {
		s.Disk.Blocks[at][3+at] ^= 129
	}
	return s
}

// samples are stores with few and many records, with versions at the edge and
// there twice, with pairs of every kind, with late writes, and with every pair
// that is next.
func samples() []api.Store {
	some := holding(5, api.Record{}, data(7, 1, "ab"), mark(7, 3), api.Record{}, data(1, 2, ""), data(9, 4, "q"))
	clash := holding(2, data(7, 1, "ab"), mark(7, 2), data(7, 2, "x"), mark(7, 2))
	clash.Disk.Blocks[1], clash.Disk.Blocks[5], clash.Disk.Blocks[11] = written(mark(3, 3), 1), written(free(), 5), written(data(8, 9, "z"), 11)
	late := copyOf(some)
	late.Disk = with(with(late.Disk, 0, data(9, 5, "z")), 5, free())
	late.Index = scanned(late.Disk)
	out := []api.Store{
		store.New(), some, late, clash, rotten(clash, 0, 4, 8),
		holding(1, data(1, 59999, "a")), holding(2, api.Record{}, mark(1, 60000), data(7, 2, "b")),
		holding(3, mark(1, 60000), mark(1, 1), mark(1, 2), mark(1, 3), mark(1, 4), mark(1, 5)),
		holding(4, data(7, 2, "x"), mark(8, 9), data(7, 2, "aa"), data(255, 12, "12345678"), mark(7, 2), data(8, 9, "")),
	}
	for next := range 6 {
		x := copyOf(some)
		x.Next = next
		for _, blocks := range [][]int{{2}, {3}, {2, 3}, {0, 3, 4, 5, 9}, {0, 1, 6, 11}, {0, 1, 2, 3, 4, 5, 6, 7, 8, 9, 10, 11}} {
			out = append(out, rotten(x, blocks...))
		}
	}
	return out
}

// someDeeds are right and wrong ones; of some of these several errors fit.
func someDeeds() []api.Deed {
	nine := "123456789"
	return []api.Deed{
		put(7, "ab"), put(7, ""), put(1, "\x00"), put(255, "12345678"), put(8, "\xff\xff\xff\xff\xff\xff\xff\xff"), del(7), del(9), del(255),
		purge(7, 1), purge(7, 2), purge(7, 3), purge(1, 2), purge(1, 60000), purge(9, 5), purge(8, 9), purge(7, 4), purge(2, 1),
		{}, {Kind: 4, Key: 256, Data: []byte(nine)}, {Kind: -1, Key: 7}, {Kind: math.MaxInt, Key: 7}, {Kind: math.MinInt},
		put(0, nine), put(256, ""), del(-1), del(math.MinInt), purge(math.MaxInt, 1), purge(7, 0), purge(7, 60001), purge(7, -1),
		{Kind: api.DeedPut, Key: 7, N: 1}, {Kind: api.DeedDelete, Key: 7, N: -1, Data: []byte(nine)},
		put(7, nine), {Kind: api.DeedDelete, Key: 7, Data: []byte("a")}, {Kind: api.DeedPurge, Key: 7, N: 1, Data: []byte("a")},
	}
}

// steps are of every kind, and of none, at the edges of every number.
func steps() []api.Step {
	out := []api.Step{scrubbing(), check(), mount()}
	for _, kind := range []int{0, 7, -1, 257, 1<<32 + 1, math.MinInt, math.MaxInt} {
		out = append(out, api.Step{Kind: kind}, api.Step{Kind: kind, N: 5, M: 1, Deed: put(7, "ab")})
	}
	for _, d := range someDeeds() {
		out = append(out, deed(d))
		for _, bits := range []int{0, 1, 2, 3, 4, 13, 48, 63, -1, math.MinInt, math.MaxInt} {
			out = append(out, fall(d, bits))
		}
	}
	for _, n := range []int{0, 1, 15, 16, 17, 35, 95, 96, 176, 190, 191} {
		for _, by := range []int{0, 1, 128, 255, 256, 257, -1, -256, math.MinInt, math.MaxInt} {
			out = append(out, spoil(n, by))
		}
	}
	for _, n := range []int{-1, -16, -191, 192, 193, 208, 256, 1 << 32, math.MinInt, math.MaxInt} {
		out = append(out, spoil(n, 0), spoil(n, 1))
	}
	return out
}

func TestDoOfEveryStep(t *testing.T) {
	for _, s := range samples() {
		for _, x := range steps() {
			got, n, err := play.Do(s, x)
			want, wantN, wantErr := wanted(s, x)
			if !same(got, want) || n != wantN || err != wantErr {
				t.Errorf("Do(%v, %v) is %v, %d, %d, not %v, %d, %d", s, x, got, n, err, want, wantN, wantErr)
			}
		}
	}
}

// Fields that a kind of step has not mean nothing.
func TestFieldsThatAKindHasNot(t *testing.T) {
	type pair struct{ bare, full api.Step }
	d := api.Deed{Kind: 9, Key: -1, N: 70000, Data: []byte("123456789")}
	all := []pair{
		{spoil(40, 2), api.Step{Kind: api.StepSpoil, N: 40, M: 2, Deed: d}},
		{scrubbing(), api.Step{Kind: api.StepScrub, N: 192, M: -1, Deed: d}},
		{check(), api.Step{Kind: api.StepCheck, N: -1, M: 3, Deed: d}},
		{mount(), api.Step{Kind: api.StepMount, N: math.MinInt, M: math.MaxInt, Deed: d}},
	}
	for _, d := range someDeeds() {
		all = append(all, pair{deed(d), api.Step{Kind: api.StepDeed, N: 192, M: 255, Deed: d}})
		all = append(all, pair{fall(d, 1), api.Step{Kind: api.StepFall, N: 1, M: -1, Deed: d}})
	}
	for _, s := range samples() {
		for _, x := range all {
			want, wantN, wantErr := play.Do(s, x.bare)
			if got, n, err := play.Do(s, x.full); !same(got, want) || n != wantN || err != wantErr {
				t.Errorf("Do(%v, %v) is %v, %d, %d, not %v, %d, %d", s, x.full, got, n, err, want, wantN, wantErr)
			}
		}
	}
}

// Beside an error the store is as it was, its late writes, and what is next, too.
func TestBesideAnErrorTheStoreIsAsItWas(t *testing.T) {
	errs := map[api.Errno]int{}
	for _, s := range samples() {
		for _, x := range steps() {
			got, n, err := play.Do(s, x)
			if err != api.OK && (!same(got, s) || n != 0) {
				t.Errorf("Do(%v, %v) is %v, %d, %d", s, x, got, n, err)
			}
			errs[err]++
		}
	}
	for _, err := range []api.Errno{api.OK, api.ErrKind, api.ErrRange, api.ErrMuch, api.ErrNone, api.ErrFull} {
		if errs[err] == 0 {
			t.Errorf("error %d never came", err)
		}
	}
}

type done struct {
	x    api.Step
	n    int
	err  api.Errno
	then string
	next int
	how  [6]int
}

// run has these steps befall s, one behind the other, and looks at each answer.
func run(t *testing.T, s api.Store, l []done) api.Store {
	t.Helper()
	for i, x := range l {
		got, n, err := play.Do(s, x.x)
		how := scrub.Look(got.Disk).Count
		if told(got) != x.then || n != x.n || err != x.err || got.Next != x.next || how != x.how || len(got.Disk.Late) != 0 {
			t.Errorf("step %d, %v: it is %s%d, %d, next %d, pairs %v, not %s%d, %d, next %d, pairs %v", i, x.x, told(got), n, err, got.Next, how, x.then, x.n, x.err, x.next, x.how)
		}
		s = got
	}
	return s
}

func TestKnownSteps(t *testing.T) {
	run(t, store.New(), []done{
		{scrubbing(), 0, 0, "", 1, [6]int{6}},
		{deed(put(7, "ab")), 1, 0, "7.1=ab@0 ", 1, [6]int{5, 1}},
		{deed(del(7)), 2, 0, "7.1=ab@0 7.2!@1 ", 1, [6]int{4, 2}},
		{deed(purge(7, 3)), 0, api.ErrNone, "7.1=ab@0 7.2!@1 ", 1, [6]int{4, 2}},
		{deed(purge(7, 2)), 2, 0, "7.1=ab@0 ", 1, [6]int{5, 1}},
		{fall(put(0, ""), 3), 0, api.ErrRange, "7.1=ab@0 ", 1, [6]int{5, 1}},
		{fall(put(8, "c"), 0), 2, 0, "7.1=ab@0 ", 0, [6]int{5, 1}},
		{fall(put(8, "c"), 1), 2, 0, "7.1=ab@0 8.2=c@1 ", 0, [6]int{4, 1, 1}},
		{scrubbing(), 0, 0, "7.1=ab@0 8.2=c@1 ", 1, [6]int{4, 1, 1}},
		{scrubbing(), 0, 0, "7.1=ab@0 8.2=c@1 ", 2, [6]int{4, 2}},
		{spoil(3, 1), 0, 0, "7.1=ab@0 8.2=c@1 ", 2, [6]int{4, 1, 1}},
		{spoil(20, 1), 0, 0, "7.1=ab@0 8.2=c@1 ", 2, [6]int{4, 1, 0, 0, 1}},
		{deed(put(7, "d")), 3, 0, "7.1=ab@0 7.3=d@2 8.2=c@1 ", 2, [6]int{3, 2, 0, 0, 1}},
		{mount(), 0, 0, "7.3=d@2 8.2=c@1 ", 0, [6]int{3, 2, 0, 0, 1}},
		{spoil(191, 255), 0, 0, "7.3=d@2 8.2=c@1 ", 0, [6]int{2, 2, 0, 1, 1}},
		{check(), 0, 0, "7.3=d@2 8.2=c@1 ", 0, [6]int{4, 2}},
		{spoil(192, 1), 0, api.ErrRange, "7.3=d@2 8.2=c@1 ", 0, [6]int{4, 2}},
		{spoil(-1, 1), 0, api.ErrRange, "7.3=d@2 8.2=c@1 ", 0, [6]int{4, 2}},
		{api.Step{}, 0, api.ErrKind, "7.3=d@2 8.2=c@1 ", 0, [6]int{4, 2}},
		{api.Step{Kind: 7, N: 3, Deed: put(1, "")}, 0, api.ErrKind, "7.3=d@2 8.2=c@1 ", 0, [6]int{4, 2}},
		{api.Step{Kind: api.StepDeed}, 0, api.ErrKind, "7.3=d@2 8.2=c@1 ", 0, [6]int{4, 2}},
		{scrubbing(), 0, 0, "7.3=d@2 8.2=c@1 ", 1, [6]int{4, 2}},
		{fall(purge(8, 2), 2), 2, 0, "7.3=d@2 8.2=c@1 ", 0, [6]int{4, 1, 1}},
		{fall(purge(8, 2), 3), 2, 0, "7.3=d@2 ", 0, [6]int{5, 1}},
		{fall(del(7), 2), 4, 0, "7.3=d@2 7.4!@0 ", 0, [6]int{4, 1, 1}},
		{scrubbing(), 0, 0, "7.3=d@2 7.4!@0 ", 1, [6]int{4, 2}},
		{check(), 0, 0, "7.3=d@2 7.4!@0 ", 0, [6]int{4, 2}},
		{scrubbing(), 0, 0, "7.3=d@2 7.4!@0 ", 1, [6]int{4, 2}},
		{mount(), 0, 0, "7.3=d@2 7.4!@0 ", 0, [6]int{4, 2}},
	})
}

func TestAFullStore(t *testing.T) {
	full, how := "1.1=@0 1.2=@1 1.3=@2 1.4=@3 1.5=@4 1.6=@5 ", [6]int{0, 6}
	s := store.New()
	for range 6 {
		s, _, _ = play.Do(s, deed(put(1, "")))
	}
	s.Next = 5
	run(t, s, []done{
		{deed(put(1, "")), 0, api.ErrFull, full, 5, how},
		{fall(del(2), 3), 0, api.ErrFull, full, 5, how},
		{deed(purge(2, 1)), 0, api.ErrNone, full, 5, how},
		{fall(put(1, "123456789"), 3), 0, api.ErrMuch, full, 5, how},
		{scrubbing(), 0, 0, full, 0, how},
		{fall(purge(1, 3), 3), 3, 0, "1.1=@0 1.2=@1 1.4=@3 1.5=@4 1.6=@5 ", 0, [6]int{1, 5}},
		{fall(put(2, "x"), -1), 7, 0, "1.1=@0 1.2=@1 1.4=@3 1.5=@4 1.6=@5 2.7=x@2 ", 0, how},
	})
}

// Whichever byte is spoilt, it is that one: block by block, byte by byte.
func TestEveryByteIsSpoilt(t *testing.T) {
	s := holding(3, data(7, 1, "ab"), mark(7, 2))
	for n := range 192 {
		for _, by := range []int{1, 128, 255, -1, 256} {
			want := copyOf(s)
			want.Disk.Blocks[n/16][n%16] ^= byte(by)
			if got, v, err := play.Do(s, spoil(n, by)); !same(got, want) || v != 0 || err != api.OK {
				t.Errorf("byte %d, by %d: it is %v, %d, %d, not %v", n, by, got, v, err, want)
			}
		}
	}
}

// A put that falls with one of its writes is there; a purge that does has done
// nothing.
func TestDeedsThatFall(t *testing.T) {
	s := holding(4, data(7, 1, "ab"), mark(9, 2))
	was := "7.1=ab@0 9.2!@1 "
	for _, c := range []struct {
		d    api.Deed
		n    int
		then [4]string
	}{
		{put(7, "c"), 3, [4]string{was, "7.1=ab@0 7.3=c@2 9.2!@1 ", "7.1=ab@0 7.3=c@2 9.2!@1 ", "7.1=ab@0 7.3=c@2 9.2!@1 "}},
		{del(7), 3, [4]string{was, "7.1=ab@0 7.3!@2 9.2!@1 ", "7.1=ab@0 7.3!@2 9.2!@1 ", "7.1=ab@0 7.3!@2 9.2!@1 "}},
		{purge(7, 1), 1, [4]string{was, was, was, "9.2!@1 "}},
		{purge(9, 2), 2, [4]string{was, was, was, "7.1=ab@0 "}},
	} {
		for bits, then := range c.then {
			got, n, err := play.Do(s, fall(c.d, bits))
			if told(got) != then || n != c.n || err != api.OK || got.Next != 0 || len(got.Disk.Late) != 0 {
				t.Errorf("%v, with writes %b: it is %v, %d, %d, not %s%d", c.d, bits, got, n, err, then, c.n)
			}
			for _, more := range []int{4, 60, 1 << 62, math.MinInt} { // bits of writes that there are not
				if more, _, _ := play.Do(s, fall(c.d, bits|more)); !same(more, got) {
					t.Errorf("%v, with writes %b, and others: it is %v, not %v", c.d, bits, more, got)
				}
			}
		}
	}
}

// To fall is to start anew: what has rotted is not known any more.
func TestAFallLooksAtTheDisk(t *testing.T) {
	s := rotten(holding(4, data(7, 1, "ab"), data(9, 2, "c")), 0, 1)
	got, n, err := play.Do(s, fall(put(8, "d"), 0))
	if told(got) != "9.2=c@1 " || n != 3 || err != api.OK {
		t.Errorf("it is %s%d, %d", told(got), n, err)
	}
	if got, n, err = play.Do(s, deed(put(8, "d"))); told(got) != "7.1=ab@0 8.3=d@2 9.2=c@1 " || n != 3 || err != api.OK {
		t.Errorf("a deed that is done: it is %s%d, %d", told(got), n, err)
	}
}

// forged are steps that make of one block another one, byte by byte.
func forged(at int, from, to api.Record) []api.Step {
	var out []api.Step
	a, b := written(from, at), written(to, at)
	for n := range a {
		out = append(out, spoil(16*at+n, int(a[n]^b[n])))
	}
	return out
}

// What rot writes is what a block tells, if it is one: even a version at the
// edge, and one that is there already.
func TestRotThatTells(t *testing.T) {
	l := append(forged(2, free(), mark(9, 59999)), mount(), deed(put(7, "a")), deed(put(7, "b")), fall(del(7), 3), deed(purge(9, 59999)))
	s, errs, versions, err := play.Play(l)
	if told(s) != "7.60000=a@0 " || !same(errs[16:], []api.Errno{0, 0, api.ErrMuch, api.ErrMuch, 0}) || !same(versions[16:], []int{0, 60000, 0, 0, 59999}) || err != api.OK {
		t.Errorf("it is %s, %v, %v, %d", told(s), errs, versions, err)
	}
	l = append([]api.Step{deed(put(7, "a")), deed(put(8, "b"))}, forged(8, free(), data(7, 1, "z"))...)
	l = append(l, forged(3, data(8, 2, "b"), mark(8, 2))...)
	run(t, copyOf(first(play.Play(l))), []done{
		{mount(), 0, 0, "7.1=a@0 7.1=z@4 8.2=b@1 ", 0, [6]int{3, 1, 1, 0, 0, 1}},
		{fall(purge(7, 1), 3), 1, 0, "7.1=z@4 8.2=b@1 ", 0, [6]int{4, 0, 1, 0, 0, 1}},
	})
	run(t, first(play.Play(l)), []done{
		{scrubbing(), 0, 0, "7.1=a@0 7.1=z@4 8.2=b@1 ", 1, [6]int{3, 1, 1, 0, 0, 1}},
		{scrubbing(), 0, 0, "7.1=a@0 7.1=z@4 8.2=b@1 ", 2, [6]int{3, 2, 1}},
		{check(), 0, 0, "7.1=a@0 8.2=b@1 ", 0, [6]int{4, 2}},
	})
}

func first(s api.Store, _ []api.Errno, _ []int, _ api.Errno) api.Store { return s }

// played is what Play must answer of steps that are not too many.
func played(l []api.Step) (api.Store, []api.Errno, []int) {
	s := holding(0)
	errs, versions := []api.Errno{}, []int{}
	for _, x := range l {
		next, n, err := wanted(s, x)
		s, errs, versions = next, append(errs, err), append(versions, n)
	}
	return s, errs, versions
}

func wantPlay(t *testing.T, l []api.Step) {
	t.Helper()
	s, errs, versions, err := play.Play(l)
	want, wantErrs, wantVersions := played(l)
	if !same(s, want) || !same(errs, wantErrs) || !same(versions, wantVersions) || err != api.OK {
		t.Errorf("Play(%v) is %v, %v, %v, %d, not %v, %v, %v", l, s, errs, versions, err, want, wantErrs, wantVersions)
	}
}

// chooser has a function that chooses numbers below a bound, by a fixed rule, so
// that all runs of the tests are alike.
func chooser(seed int) func(bound int) int {
	n := uint64(seed)
	return func(bound int) int {
		n = n*6364136223846793005 + 1442695040888963407
		return int(n >> 33 % uint64(bound))
	}
}

// chosen is a play of so many steps; of wild ones there are some that are wrong,
// and some that spoil.
func chosen(many, seed int, wild bool) []api.Step {
	choose := chooser(seed)
	all := steps()
	var out []api.Step
	for len(out) < many {
		d := []api.Deed{put(1+choose(3), "abc"[:choose(4)]), del(1 + choose(3)), purge(1+choose(3), 1+choose(9)), purge(1+choose(3), 1+choose(9))}[choose(4)]
		kind := choose(9)
		switch {
		case kind < 3:
			out = append(out, deed(d))
		case kind < 5:
			out = append(out, fall(d, choose(4)))
		case wild && kind < 7:
			out = append(out, spoil(choose(192), 1<<choose(8)))
		case wild && kind == 7:
			out = append(out, all[choose(len(all))])
		default:
			out = append(out, []api.Step{scrubbing(), check(), mount()}[choose(3)])
		}
	}
	return out
}

func TestPlayOfManySteps(t *testing.T) {
	for seed := range 300 {
		wantPlay(t, chosen(100, seed, seed%3 > 0))
	}
}

func TestPlayOfFewSteps(t *testing.T) {
	wantPlay(t, nil)
	wantPlay(t, []api.Step{})
	for _, x := range steps() {
		wantPlay(t, []api.Step{x})
		wantPlay(t, []api.Step{deed(put(7, "ab")), x, scrubbing(), x})
	}
}

func TestPlayOfNothing(t *testing.T) {
	s, errs, versions, err := play.Play(nil)
	if !same(s, store.New()) || len(errs) != 0 || len(versions) != 0 || err != api.OK {
		t.Errorf("it is %v, %v, %v, %d", s, errs, versions, err)
	}
}

func TestPlayIsDoStepByStep(t *testing.T) {
	for seed := range 50 {
		l := chosen(60, 1000+seed, true)
		s := store.New()
		for i, x := range l {
			next, n, err := play.Do(s, x)
			got, errs, versions, _ := play.Play(l[:i+1])
			if !same(got, next) || len(errs) != i+1 || len(versions) != i+1 || errs[i] != err || versions[i] != n {
				t.Errorf("of %v step %d makes %v, %d, %d, and Play %v, %v, %v", l, i, next, n, err, got, errs, versions)
			}
			s = next
		}
	}
}

func TestHowManySteps(t *testing.T) {
	for _, many := range []int{1, 60, 61, 64, 99, 100} {
		l := chosen(many, many, true)
		if _, errs, versions, err := play.Play(l); len(errs) != many || len(versions) != many || err != api.OK {
			t.Errorf("of %d steps it is %v, %v, %d", many, errs, versions, err)
		}
		wantPlay(t, l)
	}
	for _, many := range []int{101, 102, 200, 256, 1000} {
		for _, l := range [][]api.Step{chosen(many, many, true), make([]api.Step, many)} {
			s, errs, versions, err := play.Play(l)
			if s.Disk.Blocks != nil || !same(s, api.Store{}) || len(errs) != 0 || len(versions) != 0 || err != api.ErrMany {
				t.Errorf("of %d steps it is %v, %v, %v, %d", many, s, errs, versions, err)
			}
		}
	}
}

// What was answered is there; what is said to be there is there: without rot a
// deed that is done makes of the records what the model makes of them, one that
// falls that, or nothing, and the rest makes nothing of them.
func TestWithoutRotPlaysAreAsTheModel(t *testing.T) {
	for seed := range 200 {
		s := store.New()
		for _, x := range chosen(100, 5000+seed, false) {
			l := store.Records(s)
			made, n, err := model.Do(l, x.Deed)
			got, gotN, gotErr := play.Do(s, x)
			records := store.Records(got)
			switch x.Kind {
			case api.StepDeed:
				if !model.Same(records, made) || gotN != n || gotErr != err {
					t.Errorf("Do(%s, %v) is %s%d, %d, not %v, %d, %d", told(s), x, told(got), gotN, gotErr, made, n, err)
				}
			case api.StepFall:
				if !model.Same(records, made) && !model.Same(records, l) || gotN != n || gotErr != err {
					t.Errorf("Do(%s, %v) is %s%d, %d, not %v, %d, %d, or as it was", told(s), x, told(got), gotN, gotErr, made, n, err)
				}
			default:
				if told(got) != told(s) {
					t.Errorf("Do(%s, %v) is %s", told(s), x, told(got))
				}
			}
			s = got
		}
	}
}

// roomyBytes are b, and spare room behind them with something in it.
func roomyBytes(b []byte) []byte { return append(bytes.Clone(b), "spare"...)[:len(b)] }

// roomy is s with spare room behind every list, and something in it: blocks,
// writes and entries that would make a difference.
func roomy(s api.Store) api.Store {
	out := api.Store{Next: s.Next}
	for _, b := range s.Disk.Blocks {
		out.Disk.Blocks = append(out.Disk.Blocks, roomyBytes(b))
	}
	for _, w := range s.Disk.Late {
		out.Disk.Late = append(out.Disk.Late, api.Write{At: w.At, Data: roomyBytes(w.Data)})
	}
	for _, e := range s.Index {
		e.Record.Data = roomyBytes(e.Record.Data)
		out.Index = append(out.Index, e)
	}
	for p := range 6 {
		r := data(7, 300+p, "spare")
		out.Disk.Blocks = append(out.Disk.Blocks, written(r, 2*p), written(r, 2*p+1))
		out.Disk = with(out.Disk, p, r)
		out.Index = append(out.Index, api.Entry{Record: r, Pair: p})
	}
	out.Disk.Blocks = out.Disk.Blocks[:len(s.Disk.Blocks)]
	out.Disk.Late = out.Disk.Late[:len(s.Disk.Late)]
	out.Index = out.Index[:len(s.Index)]
	return out
}

// roomySteps are l, likewise.
func roomySteps(l []api.Step) []api.Step {
	var out []api.Step
	for _, x := range l {
		x.Deed.Data = roomyBytes(x.Deed.Data)
		out = append(out, x)
	}
	for range 4 {
		out = append(out, deed(put(7, "spare")))
	}
	return out[:len(l)]
}

// whole is s with its spare room as part of it; its lists are those of s.
func whole(s api.Store) api.Store {
	s.Disk.Blocks = slices.Clone(s.Disk.Blocks[:cap(s.Disk.Blocks)])
	for at, b := range s.Disk.Blocks {
		s.Disk.Blocks[at] = b[:cap(b)]
	}
	s.Disk.Late = slices.Clone(s.Disk.Late[:cap(s.Disk.Late)])
	for i, w := range s.Disk.Late {
		s.Disk.Late[i].Data = w.Data[:cap(w.Data)]
	}
	s.Index = slices.Clone(s.Index[:cap(s.Index)])
	for i, e := range s.Index {
		s.Index[i].Record.Data = e.Record.Data[:cap(e.Record.Data)]
	}
	return s
}

// bytesOf are all lists of bytes that s has.
func bytesOf(s api.Store) [][]byte {
	out := slices.Clone(s.Disk.Blocks)
	for _, w := range s.Disk.Late {
		out = append(out, w.Data)
	}
	for _, e := range s.Index {
		out = append(out, e.Record.Data)
	}
	return out
}

func wipeBytes(b []byte) {
	b = b[:cap(b)]
	for n := range b {
		b[n] ^= 255
	}
}

// wipe turns all that can be reached from s, spare room too.
func wipe(s api.Store) {
	for _, b := range bytesOf(whole(s)) {
		wipeBytes(b)
	}
	clear(s.Disk.Blocks[:cap(s.Disk.Blocks)])
	clear(s.Disk.Late[:cap(s.Disk.Late)])
	clear(s.Index[:cap(s.Index)])
}

func wipeSteps(l []api.Step) {
	for _, x := range l[:cap(l)] {
		wipeBytes(x.Deed.Data)
	}
	clear(l[:cap(l)])
}

// given is all that a call of this package may be handed.
type given struct {
	s api.Store
	l []api.Step
}

// reached is a copy of all that can be reached from g, spare room too.
func (g given) reached() given {
	l := slices.Clone(g.l[:cap(g.l)])
	for i, x := range l {
		l[i].Deed.Data = bytes.Clone(x.Deed.Data[:cap(x.Deed.Data)])
	}
	return given{copyOf(whole(g.s)), l}
}

func (g given) wipe() {
	wipe(g.s)
	wipeSteps(g.l)
}

// answer is all that a call of this package may answer.
type answer struct {
	s        api.Store
	errs     []api.Errno
	versions []int
	n        int
	err      api.Errno
}

func (a answer) wipe() {
	wipe(a.s)
	for i := range a.errs[:cap(a.errs)] {
		a.errs[:cap(a.errs)][i] = -9
	}
	for i := range a.versions[:cap(a.versions)] {
		a.versions[:cap(a.versions)][i] = -9
	}
}

type call struct {
	name string
	do   func(given) answer
}

// calls are all of the package; Do is handed the first step.
func calls() []call {
	return []call{
		{"Do", func(g given) answer {
			s, n, err := play.Do(g.s, g.l[0])
			return answer{s: s, n: n, err: err}
		}},
		{"Play", func(g given) answer {
			s, errs, versions, err := play.Play(g.l)
			return answer{s: s, errs: errs, versions: versions, err: err}
		}},
	}
}

// someGiven are stores, and steps: each of these is the first one at least once.
func someGiven() []given {
	var out []given
	all, stores := steps(), samples()
	for i := range all {
		for n := range 4 {
			l := []api.Step{all[i], deed(put(7, "ab")), all[(i*7+n)%len(all)], fall(del(7), 1), all[i]}
			out = append(out, given{stores[(i+n*5)%len(stores)], l})
		}
	}
	return out
}

func TestNoCallChangesOrKeepsWhatItIsHanded(t *testing.T) {
	for _, c := range calls() {
		for _, x := range someGiven() {
			want := fmt.Sprint(c.do(x))
			g := given{roomy(x.s), roomySteps(x.l)}
			room := g.reached()
			got := c.do(g)
			if fmt.Sprint(got) != want {
				t.Errorf("%s: of %v with spare room behind it is %v, not %v", c.name, x, got, want)
			}
			if !same(g.reached(), room) {
				t.Errorf("%s: what was handed in, %v, is changed", c.name, x)
			}
			got.wipe()
			if !same(g.reached(), room) {
				t.Errorf("%s: what was handed in, %v, changed with the answer", c.name, x)
			}
			got = c.do(g)
			if fmt.Sprint(got) != want {
				t.Errorf("%s: of %v it is %v, and then %v", c.name, x, want, got)
			}
			g.wipe()
			if fmt.Sprint(got) != want {
				t.Errorf("%s: the answer of %v changed with what was handed in", c.name, x)
			}
		}
	}
}

// A record stands in two blocks, and in the index, but in no memory twice.
func TestListsOfAnAnswerShareNoMemory(t *testing.T) {
	for _, c := range calls() {
		for _, x := range someGiven() {
			lists := bytesOf(c.do(x).s)
			for i, b := range lists {
				kept := slices.Clone(lists)
				for n := range kept {
					kept[n] = bytes.Clone(kept[n])
				}
				wipeBytes(b)
				kept[i] = bytes.Clone(b)
				if !slices.EqualFunc(lists, kept, bytes.Equal) {
					t.Errorf("%s: of %v list %d shares memory with another one", c.name, x, i)
				}
			}
		}
	}
}

func TestNilAndEmptyAreTheSame(t *testing.T) {
	bare, empty := store.New(), store.New()
	bare.Disk.Late, bare.Index = nil, nil
	empty.Disk.Late, empty.Index = []api.Write{}, []api.Entry{}
	nothing := api.Store{Disk: api.Disk{Blocks: [][]byte{}, Late: []api.Write{}}, Index: []api.Entry{}}
	for _, x := range steps() {
		y := x
		if len(x.Deed.Data) == 0 {
			x.Deed.Data, y.Deed.Data = nil, []byte{}
		}
		for _, c := range calls() {
			for _, s := range [][2]api.Store{{bare, empty}, {{}, nothing}} {
				a, b := c.do(given{s[0], []api.Step{x}}), c.do(given{s[1], []api.Step{y}})
				if !same(a, b) {
					t.Errorf("%s, of %v: with nil lists it is %v, with empty ones %v", c.name, x, a, b)
				}
			}
		}
	}
}

// The document says nothing of what is no store, or no disk; a call must still
// end without a panic, leave what it is handed, and tell the errors that hang on
// the step alone.
func TestWhatIsNoStore(t *testing.T) {
	short := holding(0, data(7, 1, "ab"))
	short.Disk.Blocks = short.Disk.Blocks[:1]
	long := holding(1, data(7, 1, "ab"))
	long.Disk.Blocks = append(long.Disk.Blocks, copyOf(long).Disk.Blocks...)
	strange := holding(-1, data(7, 1, "ab"))
	strange.Disk.Blocks[3], strange.Disk.Blocks[4] = nil, make([]byte, 99)
	strange.Disk.Late = []api.Write{{}, {At: -1}, {At: 12, Data: []byte{1}}, {At: math.MaxInt}, {At: 7, Data: []byte("7")}}
	strange.Index = []api.Entry{{Pair: -1}, {Record: mark(math.MinInt, math.MaxInt), Pair: math.MaxInt}, {Record: mark(7, 1), Pair: math.MinInt}}
	for i, s := range []api.Store{{}, {Next: 6}, {Next: math.MinInt}, {Next: math.MaxInt, Index: strange.Index}, short, long, strange} {
		for _, x := range steps() {
			kept := copyOf(s)
			got, n, err := play.Do(s, x)
			if !same(s, kept) {
				t.Errorf("%d: Do of %v changed what was handed in", i, x)
			}
			if err != api.OK && (!same(got, s) || n != 0) {
				t.Errorf("%d: Do of %v is %v, %d, %d", i, x, got, n, err)
			}
			if x.Kind == api.StepSpoil && (x.N < 0 || x.N > 191) != (err == api.ErrRange) {
				t.Errorf("%d: Do of %v tells %d", i, x, err)
			}
		}
	}
}
