package may_test

import (
	"bytes"
	"fmt"
	"math"
	"slices"
	"testing"

	"scrubstore/api"
	"scrubstore/may"
	"scrubstore/play"
	"scrubstore/store"
)

func free() api.Record { return api.Record{Kind: api.KindFree} }

func mark(key, version int) api.Record {
	return api.Record{Kind: api.KindMark, Key: key, Version: version}
}

func data(key, version int, s string) api.Record {
	return api.Record{Kind: api.KindData, Key: key, Version: version, Data: []byte(s)}
}

func put(key int, s string) api.Deed {
	return api.Deed{Kind: api.DeedPut, Key: key, Data: []byte(s)}
}

func del(key int) api.Deed { return api.Deed{Kind: api.DeedDelete, Key: key} }

func purge(key, n int) api.Deed { return api.Deed{Kind: api.DeedPurge, Key: key, N: n} }

func deed(d api.Deed) api.Step { return api.Step{Kind: api.StepDeed, Deed: d} }

func fall(d api.Deed, bits int) api.Step { return api.Step{Kind: api.StepFall, N: bits, Deed: d} }

func spoil(n, by int) api.Step { return api.Step{Kind: api.StepSpoil, N: n, M: by} }

func scrubbing() api.Step { return api.Step{Kind: api.StepScrub} }

func check() api.Step { return api.Step{Kind: api.StepCheck} }

func mount() api.Step { return api.Step{Kind: api.StepMount} }

// same is whether a and b are alike in all that they have; nil and empty lists
// are told alike.
func same(a, b any) bool { return fmt.Sprint(a) == fmt.Sprint(b) }

// wrong is whether a deed is not right, by the words of chapter 6.
func wrong(d api.Deed) bool {
	purges, puts := d.Kind == api.DeedPurge, d.Kind == api.DeedPut
	switch {
	case d.Kind < 1 || d.Kind > 3 || d.Key < 1 || d.Key > 255:
		return true
	case purges && (d.N < 1 || d.N > 60000) || !purges && d.N != 0:
		return true
	}
	return len(d.Data) > 8 || !puts && len(d.Data) > 0
}

// made is what a deed makes of l, by the words of chapter 6; false, if it has an
// error.
func made(l []api.Record, d api.Deed) ([]api.Record, bool) {
	if wrong(d) {
		return nil, false
	}
	n := 1
	for i, r := range l {
		n = max(n, r.Version+1)
		if d.Kind == api.DeedPurge && r.Key == d.Key && r.Version == d.N {
			return slices.Delete(slices.Clone(l), i, i+1), true
		}
	}
	switch {
	case d.Kind == api.DeedPurge || len(l) >= 6 || n > 60000:
		return nil, false
	case d.Kind == api.DeedPut:
		return append(slices.Clone(l), data(d.Key, n, string(d.Data))), true
	}
	return append(slices.Clone(l), mark(d.Key, n)), true
}

// listed is what Lists must answer, by the words of chapter 12.
func listed(l []api.Record, x api.Step) [][]api.Record {
	m, ok := made(l, x.Deed)
	switch {
	case x.Kind == api.StepDeed && ok:
		return [][]api.Record{m}
	case x.Kind == api.StepFall && ok:
		return [][]api.Record{l, m}
	}
	return [][]api.Record{l}
}

// records are lists of them: none, few, as many as there are pairs, and more; of
// versions at the edge, and of one version twice, in no order.
func records() [][]api.Record {
	six := []api.Record{data(7, 2, "x"), mark(8, 9), data(7, 2, "aa"), data(255, 12, "12345678"), mark(7, 2), data(8, 9, "")}
	return [][]api.Record{
		nil, {}, {data(7, 1, "ab")}, {mark(7, 3)}, {data(7, 1, "ab"), mark(7, 2)}, {mark(7, 2), data(7, 1, "ab")},
		{data(9, 4, "q"), data(1, 2, ""), mark(7, 3)}, {data(1, 59999, "a")}, {mark(1, 60000), data(7, 2, "b")}, {data(7, 60000, "")},
		{mark(1, 255), mark(1, 256)}, six[:5], six, slices.Concat(six, six), {mark(1, 60000), mark(1, 1), mark(1, 2), mark(1, 3), mark(1, 4), mark(1, 5)},
	}
}

// someDeeds are right and wrong ones; of some of these several errors fit.
func someDeeds() []api.Deed {
	nine := "123456789"
	return []api.Deed{
		put(7, "ab"), put(7, ""), put(1, "\x00"), put(255, "12345678"), put(8, "\xff\xff\xff\xff\xff\xff\xff\xff"), del(7), del(1), del(255),
		purge(7, 1), purge(7, 2), purge(7, 3), purge(1, 2), purge(1, 59999), purge(1, 60000), purge(8, 9), purge(7, 4), purge(2, 1), purge(1, 256),
		{}, {Kind: 4, Key: 256, Data: []byte(nine)}, {Kind: -1, Key: 7}, {Kind: math.MaxInt, Key: 7}, {Kind: math.MinInt}, {Kind: 1<<32 + 1, Key: 7},
		put(0, nine), put(256, ""), put(263, "a"), del(-1), del(math.MinInt), purge(math.MaxInt, 1), purge(7, 0), purge(7, 60001), purge(7, 65537), purge(7, -1),
		{Kind: api.DeedPut, Key: 7, N: 1}, {Kind: api.DeedDelete, Key: 7, N: -1, Data: []byte(nine)},
		put(7, nine), {Kind: api.DeedDelete, Key: 7, Data: []byte("a")}, {Kind: api.DeedPurge, Key: 7, N: 2, Data: []byte("a")},
	}
}

// noKinds are kinds that are none of steps.
func noKinds() []int {
	return []int{0, 7, -1, 255, 257, 258, 259, 1<<32 + 1, 1<<32 + 3, math.MinInt, math.MaxInt}
}

// steps are of every kind, and of none, at the edges of every number.
func steps() []api.Step {
	out := []api.Step{scrubbing(), check(), mount()}
	for _, kind := range noKinds() {
		out = append(out, api.Step{Kind: kind}, api.Step{Kind: kind, N: 5, M: 1, Deed: put(7, "ab")})
	}
	for _, d := range someDeeds() {
		out = append(out, deed(d))
		for _, bits := range []int{0, 1, 2, 3, 4, -1, math.MinInt, math.MaxInt} {
			out = append(out, fall(d, bits))
		}
	}
	for _, n := range []int{0, 1, 15, 16, 17, 31, 32, 35, 95, 96, 176, 190, 191, -1, -32, -191, 192, 193, 256, 1 << 32, math.MinInt, math.MaxInt} {
		for _, by := range []int{0, 1, 128, 255, 256, -1, math.MinInt, math.MaxInt} {
			out = append(out, spoil(n, by))
		}
	}
	return out
}

func TestListsOfEveryStep(t *testing.T) {
	for _, l := range records() {
		for _, x := range steps() {
			if got, want := may.Lists(l, x), listed(l, x); !same(got, want) {
				t.Errorf("Lists(%v, %v) is %v, not %v", l, x, got, want)
			}
		}
	}
}

func TestKnownLists(t *testing.T) {
	one := []api.Record{data(7, 1, "ab")}
	two := []api.Record{data(7, 1, "ab"), mark(7, 2)}
	full := []api.Record{mark(1, 1), mark(1, 2), mark(1, 3), mark(1, 4), mark(1, 5), mark(1, 6)}
	last := []api.Record{mark(1, 60000)}
	for _, c := range []struct {
		l    []api.Record
		x    api.Step
		want [][]api.Record
	}{
		{nil, deed(put(7, "ab")), [][]api.Record{one}},
		{nil, fall(put(7, "ab"), 0), [][]api.Record{nil, one}},
		{nil, fall(purge(7, 1), 3), [][]api.Record{nil}},
		{one, deed(del(7)), [][]api.Record{two}},
		{one, fall(del(7), 3), [][]api.Record{one, two}},
		{two, deed(purge(7, 2)), [][]api.Record{one}},
		{two, fall(purge(7, 2), 1), [][]api.Record{two, one}},
		{two, fall(purge(7, 2), math.MinInt), [][]api.Record{two, one}},
		{two, deed(purge(7, 3)), [][]api.Record{two}},
		{two, fall(purge(7, 3), 3), [][]api.Record{two}},
		{one, fall(purge(7, 1), 3), [][]api.Record{one, nil}},
		{full, deed(put(7, "ab")), [][]api.Record{full}},
		{full, fall(del(7), 3), [][]api.Record{full}},
		{full, fall(purge(1, 6), 3), [][]api.Record{full, full[:5]}},
		{last, deed(del(1)), [][]api.Record{last}},
		{last, fall(put(1, ""), 3), [][]api.Record{last}},
		{two, deed(put(0, "")), [][]api.Record{two}},
		{two, fall(put(7, "123456789"), 3), [][]api.Record{two}},
		{two, fall(api.Deed{}, 3), [][]api.Record{two}},
		{two, spoil(0, 1), [][]api.Record{two}},
		{two, scrubbing(), [][]api.Record{two}},
		{two, check(), [][]api.Record{two}},
		{two, mount(), [][]api.Record{two}},
		{two, api.Step{}, [][]api.Record{two}},
	} {
		if got := may.Lists(c.l, c.x); !same(got, c.want) {
			t.Errorf("Lists(%v, %v) is %v, not %v", c.l, c.x, got, c.want)
		}
	}
}

// Of steps that have no deed none is done, whatever stands in Deed; and of those
// that have one N and M mean nothing.
func TestListsMindTheirFieldsAlone(t *testing.T) {
	for _, l := range records() {
		for _, d := range someDeeds() {
			for _, kind := range append(noKinds(), 3, 4, 5, 6) {
				x := api.Step{Kind: kind, N: 3, M: 1, Deed: d}
				if got := may.Lists(l, x); !same(got, [][]api.Record{l}) {
					t.Errorf("Lists(%v, %v) is %v", l, x, got)
				}
			}
			for _, n := range []int{0, 1, 2, 3, 192, -1, math.MaxInt} {
				for _, x := range []api.Step{deed(d), fall(d, 0)} {
					full := api.Step{Kind: x.Kind, N: n, M: n + 1, Deed: d}
					if got, want := may.Lists(l, full), listed(l, x); !same(got, want) {
						t.Errorf("Lists(%v, %v) is %v, not %v", l, full, got, want)
					}
				}
			}
		}
	}
}

// written is the block of r at a place, with its sum, written out here once
// more so that what must come leans on no package of the program.
func written(r api.Record, at int) []byte {
	b := []byte{byte(r.Kind), byte(at), byte(r.Key), byte(r.Version / 256), byte(r.Version % 256), byte(len(r.Data))}
	b = append(b, r.Data...)
	b = append(b, make([]byte, 14-len(b))...)
	n := 3
	for _, x := range b {
		n = (n*131 + int(x) + 1) % 65521
	}
	return append(b, byte(n/256), byte(n%256))
}

// right is whether a block may tell r.
func right(r api.Record) bool {
	if r.Kind == api.KindFree {
		return r.Key == 0 && r.Version == 0 && len(r.Data) == 0
	}
	return r.Key > 0 && r.Version > 0 && r.Version <= 60000 && (r.Kind == api.KindData || r.Kind == api.KindMark && len(r.Data) == 0)
}

// read is the record of which b is the block at a place.
func read(b []byte, at int) (api.Record, bool) {
	if len(b) != 16 || b[5] > 8 {
		return api.Record{}, false
	}
	r := api.Record{Kind: int(b[0]), Key: int(b[2]), Version: int(b[3])*256 + int(b[4]), Data: b[6 : 6+b[5]]}
	return r, right(r) && bytes.Equal(b, written(r, at))
}

// last is what was last written to a block.
func last(d api.Disk, at int) []byte {
	b := d.Blocks[at]
	for _, w := range d.Late {
		if w.At == at {
			b = w.Data
		}
	}
	return b
}

// alike is whether both blocks of a pair are right, and tell the same, or are
// free: whether it is PairFree, or PairBoth.
func alike(d api.Disk, p int) bool {
	a, okA := read(last(d, 2*p), 2*p)
	b, okB := read(last(d, 2*p+1), 2*p+1)
	return okA && okB && same(a, b)
}

// gentle is what Gentle must answer, by the words of chapter 12.
func gentle(s api.Store, x api.Step) bool {
	return x.Kind != 3 || x.N < 0 || x.N > 191 || alike(s.Disk, x.N/16/2)
}

// holding is the store whose pairs tell these records, twice; those of kind 0,
// and those behind, are free.
func holding(records ...api.Record) api.Store {
	var d api.Disk
	for p := range 6 {
		r := free()
		if p < len(records) && records[p].Kind != 0 {
			r = records[p]
		}
		d.Blocks = append(d.Blocks, written(r, 2*p), written(r, 2*p+1))
	}
	return store.Mount(d)
}

// rotten is s with a byte of these blocks turned.
func rotten(s api.Store, blocks ...int) api.Store {
	s = store.Own(s)
	for _, at := range blocks {
		s.Disk.Blocks[at][3+at] ^= 129
	}
	return s
}

// samples are stores with few and many records, with pairs of every kind, and
// with late writes.
func samples() []api.Store {
	some := holding(api.Record{}, data(7, 1, "ab"), mark(7, 3), api.Record{}, data(1, 2, ""), data(9, 4, "q"))
	clash := holding(data(7, 1, "ab"), mark(7, 2), data(7, 2, "x"), mark(7, 2))
	clash.Disk.Blocks[1], clash.Disk.Blocks[5], clash.Disk.Blocks[11] = written(mark(3, 3), 1), written(free(), 5), written(data(8, 9, "z"), 11)
	late := rotten(some, 0, 2, 9)
	for _, at := range []int{1, 2, 5} {
		late.Disk.Late = append(late.Disk.Late, api.Write{At: at, Data: written(data(7, 1, "ab"), at)})
	}
	out := []api.Store{
		store.New(), some, clash, rotten(clash, 0, 4, 8), late, holding(mark(1, 60000), mark(1, 1), mark(1, 2), mark(1, 3), mark(1, 4), mark(1, 5)),
	}
	for _, blocks := range [][]int{{2}, {3}, {2, 3}, {0, 3, 4, 5, 9}, {0, 1, 6, 11}, {0, 1, 2, 3, 4, 5, 6, 7, 8, 9, 10, 11}} {
		out = append(out, rotten(some, blocks...), store.Mount(rotten(some, blocks...).Disk))
	}
	return out
}

func TestGentleOfEveryStep(t *testing.T) {
	for i, s := range samples() {
		for _, x := range steps() {
			if got, want := may.Gentle(s, x), gentle(s, x); got != want {
				t.Errorf("Gentle(%d, %v) is %v", i, x, got)
			}
		}
	}
}

func TestGentleOfEveryByte(t *testing.T) {
	for i, s := range samples() {
		for n := -300; n < 600; n++ {
			for _, by := range []int{0, 1, 128, 255, 256, -1} {
				if got, want := may.Gentle(s, spoil(n, by)), gentle(s, spoil(n, by)); got != want {
					t.Errorf("Gentle(%d, a spoil of byte %d by %d) is %v", i, n, by, got)
				}
			}
		}
	}
}

// pairs are all ways in which a pair may be; the first two of them are gentle to
// spoil. The pair is the one of number p, and has the records of its key twice,
// once, or not at all.
func pairs(p int) []api.Store {
	one, other := written(data(7, 1, "ab"), 2*p), written(data(7, 1, "ab"), 2*p+1)
	freeOne, freeOther := written(free(), 2*p), written(free(), 2*p+1)
	spoilt := bytes.Clone(one)
	spoilt[4] ^= 1
	var out []api.Store
	for _, blocks := range [][2][]byte{
		{freeOne, freeOther}, {one, other},
		{one, freeOther}, {freeOne, other}, {one, spoilt}, {spoilt, other},
		{freeOne, spoilt}, {spoilt, freeOther}, {spoilt, spoilt}, {one, one}, {other, other},
		{one, written(data(7, 2, "ab"), 2*p+1)}, {one, written(data(7, 1, "aB"), 2*p+1)}, {one, written(mark(7, 1), 2*p+1)}, {one, written(data(8, 1, "ab"), 2*p+1)},
	} {
		s := store.New()
		s.Disk.Blocks[2*p], s.Disk.Blocks[2*p+1] = blocks[0], blocks[1]
		out = append(out, s, store.Mount(s.Disk))
	}
	return out
}

// A second block of a pair that rots: that is not gentle. Of the other pairs each
// is, down to the bytes beside that one.
func TestGentleOfEveryKindOfPair(t *testing.T) {
	for p := range 6 {
		for i, s := range pairs(p) {
			for n := range 192 {
				want := i < 4 || n < 32*p || n >= 32*p+32
				if got := may.Gentle(s, spoil(n, 1)); got != want {
					t.Errorf("pair %d, %d: Gentle of a spoil of byte %d is %v", p, i, n, got)
				}
			}
		}
	}
}

// Fields that a kind of step has not mean nothing: what is no spoil is gentle,
// whatever its N is.
func TestWhatIsNoSpoilIsGentle(t *testing.T) {
	lost := rotten(store.New(), 0, 1, 2, 3, 4, 5, 6, 7, 8, 9, 10, 11)
	for _, kind := range append(noKinds(), 1, 2, 4, 5, 6) {
		for n := range 192 {
			if x := (api.Step{Kind: kind, N: n, M: 1, Deed: put(7, "ab")}); !may.Gentle(lost, x) {
				t.Errorf("Gentle of %v is false", x)
			}
		}
	}
	for n := range 192 {
		for _, d := range someDeeds() {
			x := api.Step{Kind: api.StepSpoil, N: n, M: 1, Deed: d}
			if may.Gentle(lost, x) || !may.Gentle(store.New(), x) {
				t.Errorf("Gentle of %v hangs on its deed", x)
			}
		}
	}
}

func TestKnownWalks(t *testing.T) {
	a := deed(put(7, "ab"))
	for i, c := range []struct {
		l    []api.Step
		want int
	}{
		{nil, 0},
		{[]api.Step{}, 0},
		{[]api.Step{{}}, 1},
		{[]api.Step{a}, 1},
		{[]api.Step{a, spoil(0, 1), spoil(16, 1)}, 2},                // the second block of the pair
		{[]api.Step{a, spoil(0, 1), spoil(0, 1)}, 2},                 // the same byte: though it would be as it was
		{[]api.Step{a, spoil(0, 1), spoil(31, 0)}, 2},                // nothing is turned, and still it is a spoil
		{[]api.Step{a, spoil(0, 256), spoil(31, 1), mount()}, 4},     // the first one turns nothing
		{[]api.Step{a, spoil(31, 1), spoil(32, 1), spoil(64, 9)}, 4}, // three pairs
		{[]api.Step{spoil(190, 1), spoil(160, 1), a}, 1},             // a free pair that rots twice
		{[]api.Step{spoil(0, 1), a, spoil(16, 1)}, 3},                // the put writes both blocks
		{[]api.Step{a, spoil(0, 1), mount(), spoil(16, 1)}, 3},       // to start anew mends nothing
		{[]api.Step{a, spoil(0, 1), check(), spoil(16, 1)}, 4},       // to put in order does
		{[]api.Step{a, spoil(0, 1), scrubbing(), spoil(16, 1)}, 4},   // the scrubber was at that pair
		{[]api.Step{a, scrubbing(), spoil(0, 1), scrubbing(), spoil(16, 1)}, 4},
		{[]api.Step{a, spoil(0, 1), deed(purge(7, 1)), spoil(16, 1)}, 4},
		{[]api.Step{a, spoil(0, 1), deed(purge(7, 2)), spoil(16, 1)}, 3}, // that purges nothing
		{[]api.Step{fall(put(7, "ab"), 0), spoil(0, 1)}, 2},
		{[]api.Step{fall(put(7, "ab"), 1), spoil(0, 1)}, 1},
		{[]api.Step{fall(put(7, "ab"), 2), spoil(0, 1)}, 1}, // the block is free, but the pair isn't
		{[]api.Step{fall(put(7, "ab"), 3), spoil(0, 1)}, 2},
		{[]api.Step{a, fall(purge(7, 1), 1), spoil(0, 1)}, 2},
		{[]api.Step{a, fall(purge(7, 1), 3), spoil(0, 1)}, 3},
		{[]api.Step{a, spoil(0, 1), fall(purge(7, 1), 2), a, spoil(0, 1)}, 5}, // one is free, the other one spoilt; then it is written anew
		{[]api.Step{a, spoil(0, 1), fall(purge(7, 1), 2), spoil(0, 1)}, 3},
		{[]api.Step{a, deed(put(0, "")), fall(del(-1), 3), spoil(192, 1), spoil(-1, 1), {Kind: 7}, spoil(0, 1), spoil(1, 1)}, 7}, // wrong ones are done, too
		{[]api.Step{a, a, a, a, a, a, a, deed(del(1)), fall(put(1, ""), 3), spoil(176, 1), scrubbing(), spoil(191, 1), check()}, 11},
		{[]api.Step{spoil(0, 1), spoil(1, 1), {}, a, spoil(99, 1), a}, 1}, // the first one that is not gentle counts
	} {
		if n, ok := may.Walk(c.l); n != c.want || !ok {
			t.Errorf("%d: Walk(%v) is %d, %v, not %d", i, c.l, n, ok, c.want)
		}
	}
}

// chooser has a function that chooses numbers below a bound, by a fixed rule, so
// that all runs of the tests are alike.
func chooser(seed int) func(bound int) int {
	n := uint64(seed)
	return func(bound int) int {
		n = n*6364136223846793005 + 1442695040888963407
		return int(n >> 33 % uint64(bound))
	}
}

// chosen are so many steps; one in so many of them spoils.
func chosen(many, seed, rare int) []api.Step {
	choose := chooser(seed)
	all := steps()
	var out []api.Step
	for len(out) < many {
		d := []api.Deed{put(1+choose(3), "abc"[:choose(4)]), del(1 + choose(3)), purge(1+choose(3), 1+choose(9)), purge(1+choose(3), 1+choose(9))}[choose(4)]
		kind := choose(8)
		switch {
		case choose(rare) == 0:
			out = append(out, spoil(choose(192), 1<<choose(9)))
		case kind < 3:
			out = append(out, deed(d))
		case kind < 5:
			out = append(out, fall(d, choose(4)))
		case kind == 5:
			x := all[choose(len(all))]
			if x.Kind != api.StepSpoil || choose(rare) == 0 {
				out = append(out, x)
			}
		default:
			out = append(out, []api.Step{scrubbing(), check(), mount()}[choose(3)])
		}
	}
	return out
}

// gentleOnes is how many of l, from the first one on, are gentle to the stores
// that they make.
func gentleOnes(l []api.Step) int {
	s := store.New()
	for i, x := range l {
		if !gentle(s, x) {
			return i
		}
		s, _, _ = play.Do(s, x)
	}
	return len(l)
}

// What was answered is there; what is said to be there is there: no walk comes
// to what may not be.
func TestManyWalks(t *testing.T) {
	whole, cut := 0, 0
	for seed := range 1500 {
		l := chosen(20+seed%200, seed, 1+seed%30)
		want := gentleOnes(l)
		if n, ok := may.Walk(l); n != want || !ok {
			t.Errorf("Walk(%v) is %d, %v, not %d", l, n, ok, want)
		}
		if want == len(l) {
			whole++
		} else {
			cut++
		}
	}
	if whole < 100 || cut < 100 {
		t.Errorf("%d walks came to their end, and %d did not", whole, cut)
	}
}

// All walks of few steps, of a few that matter.
func TestShortWalks(t *testing.T) {
	few := []api.Step{
		deed(put(7, "a")), deed(purge(7, 1)), fall(put(7, "b"), 1), fall(del(7), 2), fall(purge(7, 1), 1), fall(purge(7, 1), 2),
		spoil(0, 1), spoil(16, 2), scrubbing(), check(), mount(),
	}
	var l []api.Step
	var deeper func(left int)
	deeper = func(left int) {
		want := gentleOnes(l)
		if n, ok := may.Walk(l); n != want || !ok {
			t.Errorf("Walk(%v) is %d, %v, not %d", l, n, ok, want)
		}
		if left == 0 || want < len(l) {
			return
		}
		for _, x := range few {
			l = append(l, x)
			deeper(left - 1)
			l = l[:len(l)-1]
		}
	}
	deeper(4)
}

// A walk may be of more steps than a play: it goes on until no version is left.
func TestALongWalk(t *testing.T) {
	l := []api.Step{deed(put(7, "a"))}
	for n := 1; n < 60000; n++ {
		l = append(l, deed(put(7, "a")), deed(purge(7, n)))
	}
	for _, behind := range [][]api.Step{
		{deed(put(7, "a")), fall(del(7), 3), spoil(40, 1), scrubbing()},
		{deed(purge(7, 60000)), deed(put(7, "a")), deed(purge(7, 1))},
	} {
		all := slices.Concat(l, behind)
		if n, ok := may.Walk(all); n != len(all) || !ok {
			t.Errorf("of %d steps it is %d, %v", len(all), n, ok)
		}
		all = slices.Concat(all, []api.Step{spoil(60, 1), spoil(61, 1), spoil(62, 1)})
		if n, ok := may.Walk(all); n >= len(all)-1 || !ok {
			t.Errorf("of %d steps, the last of which are not gentle, it is %d, %v", len(all), n, ok)
		}
	}
}

// with is s that has these records, in turn: what is on its disk is told by
// nobody, but the index.
func with(s api.Store, l []api.Record) api.Store {
	s = store.Own(s)
	s.Index = nil
	for p, r := range l {
		s.Index = append(s.Index, api.Entry{Record: r, Pair: p})
	}
	return s
}

// doer does steps to stores, and counts them: what it makes of step wrongAt has
// the records that wrong makes of those that it should have.
type doer struct {
	wrongAt, done int
	wrong         func(l []api.Record) []api.Record
}

func (d *doer) do(s api.Store, x api.Step) api.Store {
	s, _, _ = play.Do(s, x)
	if d.done == d.wrongAt {
		s = with(s, d.wrong(store.Records(s)))
	}
	d.done++
	return s
}

// A store that does wrong is found, at the step at which it does.
func TestWalksToWhatMayNotBe(t *testing.T) {
	a := deed(put(7, "ab"))
	l := []api.Step{
		a, deed(del(8)), spoil(0, 1), fall(put(9, "c"), 1), fall(put(9, "d"), 0), deed(put(0, "")), {}, spoil(192, 1),
		scrubbing(), mount(), spoil(1, 1), check(), fall(purge(7, 1), 3), fall(purge(9, 3), 1), mount(),
	}
	for name, wrong := range map[string]func(l []api.Record) []api.Record{
		"all are lost":      func([]api.Record) []api.Record { return nil },
		"one is lost":       func(l []api.Record) []api.Record { return l[1:] },
		"one comes":         func(l []api.Record) []api.Record { return append(l, data(7, 77, "ab")) },
		"all are twice":     func(l []api.Record) []api.Record { return append(l, l...) },
		"one is other":      func(l []api.Record) []api.Record { return append(l[1:], data(l[0].Key, l[0].Version, "x")) },
		"a kind is other":   func(l []api.Record) []api.Record { l[0].Kind = 5 - l[0].Kind; return l },
		"a key is other":    func(l []api.Record) []api.Record { l[0].Key++; return l },
		"a version's other": func(l []api.Record) []api.Record { l[len(l)-1].Version += 9; return l },
	} {
		for at := range l {
			d := doer{wrongAt: at, wrong: wrong}
			if n, ok := may.WalkBy(l, d.do); n != at || ok {
				t.Errorf("%s at step %d: it is %d, %v", name, at, n, ok)
			}
			if d.done != at+1 {
				t.Errorf("%s at step %d: %d were done", name, at, d.done)
			}
		}
	}
}

// In which order records stand is nothing that is wrong.
func TestWalksOfOtherOrders(t *testing.T) {
	l := []api.Step{deed(put(9, "ab")), deed(del(8)), fall(put(7, "c"), 3), mount(), spoil(0, 1), scrubbing(), fall(purge(8, 2), 0), check()}
	for at := range l {
		d := doer{wrongAt: at, wrong: func(l []api.Record) []api.Record { slices.Reverse(l); return l }}
		if n, ok := may.WalkBy(l, d.do); n != len(l) || !ok || d.done != len(l) {
			t.Errorf("turned round at step %d, it is %d, %v; %d were done", at, n, ok, d.done)
		}
	}
}

// A deed that is answered is done, and is that deed; one that falls is done, or
// not, and nothing else; and steps without a deed do none.
func TestWalksOfOtherDeeds(t *testing.T) {
	instead := func(y api.Step) func(api.Store, api.Step) api.Store {
		return func(s api.Store, _ api.Step) api.Store {
			s, _, _ = play.Do(s, y)
			return s
		}
	}
	is, none := deed(put(7, "ab")), mount()
	for _, c := range []struct {
		x, y api.Step
		want bool
	}{
		{is, is, true}, {is, none, false}, {is, fall(put(7, "ab"), 3), true}, {is, fall(put(7, "ab"), 0), false}, {is, deed(put(7, "aB")), false},
		{is, deed(put(8, "ab")), false}, {is, deed(del(7)), false}, {deed(del(7)), is, false}, {deed(purge(7, 1)), is, false}, {deed(purge(7, 1)), none, true},
		{fall(put(7, "ab"), 3), is, true}, {fall(put(7, "ab"), 3), none, true}, {fall(put(7, "ab"), 0), is, true}, {fall(put(7, "ab"), 0), none, true},
		{fall(put(7, "ab"), 3), deed(put(7, "aB")), false}, {fall(del(7), 3), is, false}, {fall(put(7, "123456789"), 3), none, true},
		{deed(put(0, "ab")), is, false}, {deed(put(0, "ab")), none, true}, {fall(put(0, "ab"), 3), is, false}, {fall(put(0, "ab"), 3), none, true},
		{api.Step{Deed: is.Deed}, is, false}, {api.Step{Deed: is.Deed}, none, true}, {spoil(0, 1), is, false}, {spoil(192, 1), is, false},
		{scrubbing(), is, false}, {check(), is, false}, {mount(), is, false}, {mount(), none, true}, {scrubbing(), none, true}, {check(), none, true},
	} {
		want := 0
		if c.want {
			want = 1
		}
		if n, ok := may.WalkBy([]api.Step{c.x}, instead(c.y)); n != want || ok != c.want {
			t.Errorf("%v, and what is done is %v: it is %d, %v", c.x, c.y, n, ok)
		}
	}
}

// A step that is not gentle is not done: whatever it would make is not looked at.
func TestWhatIsNotGentleIsNotDone(t *testing.T) {
	l := []api.Step{deed(put(7, "ab")), spoil(0, 1), mount(), spoil(16, 1), deed(del(7))}
	for at := range l {
		d := doer{wrongAt: at, wrong: func([]api.Record) []api.Record { return nil }}
		n, ok := may.WalkBy(l, d.do)
		want, wantOK, done := at, false, at+1
		if at >= 3 {
			want, wantOK, done = 3, true, 3
		}
		if n != want || ok != wantOK || d.done != done {
			t.Errorf("wrong at step %d: it is %d, %v, and %d were done", at, n, ok, d.done)
		}
	}
}

// What is gentle hangs on the disk, what may be on the index: on those of the
// step's own store, not of the first one, nor of one that should be.
func TestWalksGoOnWithWhatIsDone(t *testing.T) {
	at := 0
	stores := []api.Store{holding(data(7, 1, "ab")), rotten(holding(data(7, 1, "ab")), 3)}
	do := func(api.Store, api.Step) api.Store {
		at++
		return stores[min(at, len(stores))-1]
	}
	l := []api.Step{deed(put(7, "ab")), mount(), spoil(0, 1), spoil(63, 1), mount()}
	if n, ok := may.WalkBy(l, do); n != 3 || !ok || at != 3 {
		t.Errorf("it is %d, %v, and %d were done", n, ok, at)
	}
}

// roomyBytes are b, and spare room behind them with something in it.
func roomyBytes(b []byte) []byte { return append(bytes.Clone(b), "spare"...)[:len(b)] }

// roomyRecords are l with spare room behind every list, and something in it.
func roomyRecords(l []api.Record) []api.Record {
	var out []api.Record
	for _, r := range l {
		r.Data = roomyBytes(r.Data)
		out = append(out, r)
	}
	for n := range 9 {
		out = append(out, data(7, 300+n, "spare"))
	}
	return out[:len(l)]
}

// roomy is s, likewise: behind its lists are blocks, writes and entries that
// would make a difference.
func roomy(s api.Store) api.Store {
	out := api.Store{Next: s.Next}
	for _, b := range s.Disk.Blocks {
		out.Disk.Blocks = append(out.Disk.Blocks, roomyBytes(b))
	}
	for _, w := range s.Disk.Late {
		out.Disk.Late = append(out.Disk.Late, api.Write{At: w.At, Data: roomyBytes(w.Data)})
	}
	for _, e := range s.Index {
		e.Record.Data = roomyBytes(e.Record.Data)
		out.Index = append(out.Index, e)
	}
	for at := range 12 {
		r := data(7, 300, "spare")
		out.Disk.Blocks = append(out.Disk.Blocks, written(r, at))
		out.Disk.Late = append(out.Disk.Late, api.Write{At: at, Data: written(r, at)})
		out.Index = append(out.Index, api.Entry{Record: r, Pair: at / 2})
	}
	out.Disk.Blocks = out.Disk.Blocks[:len(s.Disk.Blocks)]
	out.Disk.Late = out.Disk.Late[:len(s.Disk.Late)]
	out.Index = out.Index[:len(s.Index)]
	return out
}

// roomySteps are l, likewise.
func roomySteps(l []api.Step) []api.Step {
	var out []api.Step
	for _, x := range l {
		x.Deed.Data = roomyBytes(x.Deed.Data)
		out = append(out, x)
	}
	for range 4 {
		out = append(out, spoil(0, 1))
	}
	return out[:len(l)]
}

// given is all that a call of this package may be handed.
type given struct {
	records []api.Record
	s       api.Store
	l       []api.Step
}

// roomy is g with spare room behind every list.
func (g given) roomy() given { return given{roomyRecords(g.records), roomy(g.s), roomySteps(g.l)} }

// whole is g with its spare room as part of it; its lists are those of g.
func (g given) whole() given {
	g.records = slices.Clone(g.records[:cap(g.records)])
	g.l = slices.Clone(g.l[:cap(g.l)])
	g.s.Disk.Blocks = slices.Clone(g.s.Disk.Blocks[:cap(g.s.Disk.Blocks)])
	g.s.Disk.Late = slices.Clone(g.s.Disk.Late[:cap(g.s.Disk.Late)])
	g.s.Index = slices.Clone(g.s.Index[:cap(g.s.Index)])
	for _, b := range g.bytes() {
		*b = (*b)[:cap(*b)]
	}
	return g
}

// bytes are all lists of bytes that g has.
func (g given) bytes() []*[]byte {
	var out []*[]byte
	for i := range g.records {
		out = append(out, &g.records[i].Data)
	}
	for i := range g.l {
		out = append(out, &g.l[i].Deed.Data)
	}
	for i := range g.s.Disk.Blocks {
		out = append(out, &g.s.Disk.Blocks[i])
	}
	for i := range g.s.Disk.Late {
		out = append(out, &g.s.Disk.Late[i].Data)
	}
	for i := range g.s.Index {
		out = append(out, &g.s.Index[i].Record.Data)
	}
	return out
}

// reached is a copy of all that can be reached from g, spare room too.
func (g given) reached() given {
	g = g.whole()
	for _, b := range g.bytes() {
		*b = bytes.Clone(*b)
	}
	return g
}

func wipeBytes(b []byte) {
	b = b[:cap(b)]
	for n := range b {
		b[n] ^= 255
	}
}

// wipe turns all that can be reached from g, spare room too.
func (g given) wipe() {
	for _, b := range g.whole().bytes() {
		wipeBytes(*b)
	}
	clear(g.records[:cap(g.records)])
	clear(g.l[:cap(g.l)])
	clear(g.s.Disk.Blocks[:cap(g.s.Disk.Blocks)])
	clear(g.s.Disk.Late[:cap(g.s.Disk.Late)])
	clear(g.s.Index[:cap(g.s.Index)])
}

// copyOf is a deep copy.
func copyOf(l []api.Record) []api.Record {
	var out []api.Record
	for _, r := range l {
		r.Data = bytes.Clone(r.Data)
		out = append(out, r)
	}
	return out
}

// wipeList turns all that can be reached from a list of an answer.
func wipeList(l []api.Record) {
	for _, r := range l[:cap(l)] {
		wipeBytes(r.Data)
	}
	for i := range l[:cap(l)] {
		l[:cap(l)][i] = mark(254, 40000)
	}
}

// answer is all that a call of this package may answer.
type answer struct {
	lists [][]api.Record
	n     int
	ok    bool
}

func (a answer) wipe() {
	for _, l := range a.lists {
		wipeList(l)
	}
	clear(a.lists[:cap(a.lists)])
}

type call struct {
	name string
	do   func(given) answer
}

// calls are all of the package; Lists and Gentle are handed the first step.
func calls() []call {
	return []call{
		{"Lists", func(g given) answer { return answer{lists: may.Lists(g.records, g.l[0])} }},
		{"Gentle", func(g given) answer { return answer{ok: may.Gentle(g.s, g.l[0])} }},
		{"Walk", func(g given) answer {
			n, ok := may.Walk(g.l)
			return answer{n: n, ok: ok}
		}},
	}
}

// someGiven are records, stores, and steps: each of these is the first one at
// least once.
func someGiven() []given {
	var out []given
	all, stores, lists := steps(), samples(), records()
	for i := range all {
		for n := range 4 {
			l := []api.Step{all[i], deed(put(7, "ab")), all[(i*7+n)%len(all)], fall(del(7), 1), all[i]}
			out = append(out, given{lists[(i+n*4)%len(lists)], stores[(i+n*5)%len(stores)], l})
		}
	}
	return out
}

func TestNoCallChangesOrKeepsWhatItIsHanded(t *testing.T) {
	for _, c := range calls() {
		for _, x := range someGiven() {
			want := fmt.Sprint(c.do(x))
			g := x.roomy()
			room := g.reached()
			got := c.do(g)
			if fmt.Sprint(got) != want {
				t.Errorf("%s: of %v with spare room behind it is %v, not %v", c.name, x, got, want)
			}
			if !same(g.reached(), room) {
				t.Errorf("%s: what was handed in, %v, is changed", c.name, x)
			}
			got.wipe()
			if !same(g.reached(), room) {
				t.Errorf("%s: what was handed in, %v, changed with the answer", c.name, x)
			}
			got = c.do(g)
			if fmt.Sprint(got) != want {
				t.Errorf("%s: of %v it is %v, and then %v", c.name, x, want, got)
			}
			g.wipe()
			if fmt.Sprint(got) != want {
				t.Errorf("%s: the answer of %v changed with what was handed in", c.name, x)
			}
		}
	}
}

// One record may stand in two lists, but in no memory twice.
func TestListsOfAnAnswerShareNoMemory(t *testing.T) {
	for _, l := range records() {
		for _, x := range steps() {
			n := len(may.Lists(l, x))
			for i := range n {
				got, want := may.Lists(l, x), listed(l, x)
				wipeList(got[i])
				want[i] = got[i]
				if !same(got, want) {
					t.Errorf("Lists(%v, %v): list %d shares memory with another one", l, x, i)
				}
			}
			all := slices.Concat(may.Lists(l, x)...)
			for i := range all {
				want := copyOf(all)
				wipeBytes(all[i].Data)
				want[i].Data = bytes.Clone(all[i].Data)
				if !same(all, want) {
					t.Errorf("Lists(%v, %v): data %d shares memory with another one", l, x, i)
				}
			}
		}
	}
}

func TestNilAndEmptyAreTheSame(t *testing.T) {
	bare, empty := store.New(), store.New()
	bare.Disk.Late, bare.Index = nil, nil
	empty.Disk.Late, empty.Index = []api.Write{}, []api.Entry{}
	nothing := api.Store{Disk: api.Disk{Blocks: [][]byte{}, Late: []api.Write{}}, Index: []api.Entry{}}
	for _, x := range steps() {
		y := x
		if len(x.Deed.Data) == 0 {
			x.Deed.Data, y.Deed.Data = nil, []byte{}
		}
		for _, c := range calls() {
			for _, s := range [][2]api.Store{{bare, empty}, {{}, nothing}} {
				a := c.do(given{nil, s[0], []api.Step{x}})
				b := c.do(given{[]api.Record{}, s[1], []api.Step{y}})
				if !same(a, b) {
					t.Errorf("%s, of %v: with nil lists it is %v, with empty ones %v", c.name, x, a, b)
				}
			}
		}
	}
}

// The document says nothing of records that are free, or not right, and of what
// is no store; a call must still end without a panic, and leave what it is
// handed; and where no deed can be done the records may be what they are.
func TestWhatIsNoStore(t *testing.T) {
	short, long, strange := holding(data(7, 1, "ab")), holding(data(7, 1, "ab")), holding(data(7, 1, "ab"))
	short.Disk.Blocks = short.Disk.Blocks[:1]
	long.Disk.Blocks = append(long.Disk.Blocks, store.Own(long).Disk.Blocks...)
	strange.Disk.Blocks[3], strange.Disk.Blocks[4] = nil, make([]byte, 99)
	strange.Disk.Late = []api.Write{{}, {At: -1}, {At: 12, Data: []byte{1}}, {At: math.MaxInt}, {At: 7, Data: []byte("7")}}
	strange.Index = []api.Entry{{Pair: -1}, {Record: mark(math.MinInt, math.MaxInt), Pair: math.MaxInt}, {Record: mark(7, 1), Pair: math.MinInt}}
	stores := []api.Store{{}, {Next: 6}, {Next: math.MinInt}, short, long, strange}
	for i, l := range [][]api.Record{
		{{}}, {{Kind: api.KindFree}, mark(7, 9)}, {mark(7, math.MaxInt)}, {mark(7, math.MinInt), {Kind: -1, Key: -1, Version: -1}},
		{data(7, 1, "123456789"), {Kind: api.KindMark, Key: 7, Version: 2, Data: []byte("a")}}, make([]api.Record, 600),
	} {
		for _, x := range steps() {
			g := given{l, stores[i], []api.Step{x, x, x}}
			kept := g.reached()
			for _, c := range calls() {
				c.do(g)
				if !same(g.reached(), kept) {
					t.Errorf("%d, %v: %s changed what was handed in", i, x, c.name)
				}
			}
			if got := may.Lists(l, x); (x.Kind > 2 || x.Kind < 1 || wrong(x.Deed)) && !same(got, [][]api.Record{l}) {
				t.Errorf("Lists(%v, %v) is %v", l, x, got)
			}
		}
	}
}
