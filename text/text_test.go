package text_test

import (
	"bytes"
	"fmt"
	"math"
	"strings"
	"testing"

	"scrubstore/api"
	"scrubstore/text"
)

func put(key int, s string) api.Deed {
	return api.Deed{Kind: api.DeedPut, Key: key, Data: []byte(s)}
}

func del(key int) api.Deed { return api.Deed{Kind: api.DeedDelete, Key: key} }

func purge(key, n int) api.Deed { return api.Deed{Kind: api.DeedPurge, Key: key, N: n} }

func like(a, b api.Deed) bool {
	return a.Kind == b.Kind && a.Key == b.Key && a.N == b.N && string(a.Data) == string(b.Data)
}

type written struct {
	d api.Deed
	s string
}

// known are deeds, and how they are written: at the edges of every limit and
// within.
func known() []written {
	return []written{
		{put(7, "ab"), "put 7 6162"},
		{put(7, ""), "put 7 -"},
		{put(1, "\x00"), "put 1 00"},
		{put(255, "\xff"), "put 255 ff"},
		{put(10, "\x0f\xf0"), "put 10 0ff0"},
		{put(100, "\x09\x0a\x90\xa0"), "put 100 090a90a0"},
		{put(9, "-"), "put 9 2d"},
		{put(9, " "), "put 9 20"},
		{put(200, "\x01\x23\x45\x67\x89\xab\xcd\xef"), "put 200 0123456789abcdef"},
		{put(3, "\x00\x00\x00\x00\x00\x00\x00\x00"), "put 3 0000000000000000"},
		{put(3, "1234567"), "put 3 31323334353637"},
		{del(1), "delete 1"},
		{del(7), "delete 7"},
		{del(20), "delete 20"},
		{del(255), "delete 255"},
		{purge(1, 1), "purge 1 1"},
		{purge(7, 3), "purge 7 3"},
		{purge(3, 7), "purge 3 7"},
		{purge(255, 60000), "purge 255 60000"},
		{purge(100, 1000), "purge 100 1000"},
	}
}

func TestPrintKnownDeeds(t *testing.T) {
	for _, w := range known() {
		if s := text.Print(w.d); s != w.s {
			t.Errorf("Print(%v) is %q, not %q", w.d, s, w.s)
		}
	}
}

func TestParseKnownTexts(t *testing.T) {
	for _, w := range known() {
		if d, err := text.Parse(w.s); !like(d, w.d) || err != api.OK {
			t.Errorf("Parse(%q) is %v, %d, not %v", w.s, d, err, w.d)
		}
	}
}

func TestNilAndEmptyAreTheSame(t *testing.T) {
	for _, d := range []api.Deed{{Kind: api.DeedPut, Key: 7}, {Kind: api.DeedDelete, Key: 7}, {Kind: api.DeedPurge, Key: 7, N: 2}} {
		e := d
		e.Data = []byte{}
		if a, b := text.Print(d), text.Print(e); a != b || a == "" {
			t.Errorf("of no data it is %q, of empty data %q", a, b)
		}
	}
}

// thereAndBack holds d's text against want, and what is read of it against d.
func thereAndBack(t *testing.T, d api.Deed, want string) {
	t.Helper()
	if s := text.Print(d); s != want {
		t.Errorf("Print(%v) is %q, not %q", d, s, want)
	}
	if got, err := text.Parse(want); !like(got, d) || err != api.OK {
		t.Errorf("Parse(%q) is %v, %d, not %v", want, got, err, d)
	}
}

func TestEveryKeyAndVersion(t *testing.T) {
	for key := 1; key <= 255; key++ {
		thereAndBack(t, put(key, "k"), fmt.Sprintf("put %d 6b", key))
		thereAndBack(t, del(key), fmt.Sprintf("delete %d", key))
		thereAndBack(t, purge(key, 1), fmt.Sprintf("purge %d 1", key))
	}
	for n := 1; n <= 60000; n++ {
		thereAndBack(t, purge(7, n), fmt.Sprintf("purge 7 %d", n))
	}
}

func TestEveryByteAtEveryPlace(t *testing.T) {
	for size := 1; size <= 8; size++ {
		for at := range size {
			for c := range 256 {
				b := bytes.Repeat([]byte{0x5a}, size)
				b[at] = byte(c)
				thereAndBack(t, put(7, string(b)), fmt.Sprintf("put 7 %x", b))
			}
		}
	}
}

func refused(t *testing.T, want api.Errno, l ...string) {
	t.Helper()
	for _, s := range l {
		d, err := text.Parse(s)
		if err != want {
			t.Errorf("Parse(%q) is %d, not %d", s, err, want)
		}
		if d.Kind != 0 || d.Key != 0 || d.N != 0 || len(d.Data) != 0 {
			t.Errorf("Parse(%q) answers %v beside an error", s, d)
		}
	}
}

func TestParseKind(t *testing.T) {
	refused(t, api.ErrKind,
		"", " ", "  ", "   ", "zap", "zap 7", "zap 7 -", " put 7 -", " delete 7", "  purge 7 1",
		"Put 7 -", "PUT 7 -", "pu 7 -", "puts 7 -", "put\t7 -", "put\n", "\nput 7 -", "\tput 7 -", "put7 -", "put-7",
		"deleted 7", "Delete 7", "del 7", "purge7 1", "PURGE 7 1", "purg 7 1",
		"1 7 -", "2 7", "3 7 1", "- 7 -", "7", "\x00", "\xff 7 -", "put\x00 7 -", "zap 07 zz zz", "get 7",
		"put\u00a07 -", "\ufeffput 7 -")
}

func TestParseNotAsManyWords(t *testing.T) {
	refused(t, api.ErrForm,
		"put", "put ", "put  ", "put   ", "put 7", "put 7 ", "put 7 - ", "put 7 - -", "put  7 -", "put 7  -", "put 7 6162 1", "put 7 61 62",
		"put 7 1 6162", "put 7 - - - - -",
		"delete", "delete ", "delete  ", "delete 7 ", "delete  7", "delete 7 1", "delete 7 -", "delete 7 7 7",
		"purge", "purge ", "purge  ", "purge 7", "purge 7 ", "purge 7 1 ", "purge  7 1", "purge 7  1", "purge 7 1 -", "purge 7 1 1",
		"put 7 -"+strings.Repeat(" ", 1000), "delete"+strings.Repeat(" 7", 1000))
}

// notNumbers are words that are no numbers in tens, or with something needless.
func notNumbers() []string {
	return []string{
		"", "07", "007", "00", "+7", "+0", "-0", "-07", "-00", "--7", "-", "+", "+-7", "7.", "7.0", "7e0", "0x7", "0b1", "0o7", "1_0", "_1",
		"7\t", "\t7", "7\n", "7\x00", "a", "seven", "7a", "a7", "٧", "\xff", "7,", "1,000", "NaN", "Inf", "7-", "00000000000000000000000000007",
	}
}

func TestParseNumbersThatAreNone(t *testing.T) {
	for _, w := range notNumbers() {
		refused(t, api.ErrForm, "put "+w+" -", "put "+w+" 6162", "delete "+w, "purge "+w+" 1", "purge 7 "+w, "purge 0 "+w, "purge "+w+" 0")
	}
}

// Whole numbers are those of Go's int: what is beyond them is none.
func TestParseNumbersBeyondInt(t *testing.T) {
	for _, w := range []string{"9223372036854775808", "-9223372036854775809", "18446744073709551617", "18446744073709551623", "99999999999999999999999", "1" + strings.Repeat("0", 5000)} {
		refused(t, api.ErrForm, "put "+w+" -", "delete "+w, "purge "+w+" 1", "purge 7 "+w)
	}
}

func TestParseDataThatIsNone(t *testing.T) {
	for _, w := range []string{
		"6", "616", "6A", "A6", "6F", "F6", "zz", "6z", "z6", "6g", "g6", "--", "-6", "6-", "-61", "61-", "0x61", "61626", "6162636465666768697", "\x00\x00",
		"61\n", "61\t62", "6_61", "+61", "ab\xff\xff", "/0", ":0", "`0", "0/", "0:", "0`", "٧", "abcdef-", "61G1", "610203040506070809z0",
	} {
		refused(t, api.ErrForm, "put 7 "+w, "put 0 "+w, "put 256 "+w, "put 07 "+w)
	}
}

func TestParseEveryPairOfDigits(t *testing.T) {
	for a := range 256 {
		for b := range 256 {
			w := string([]byte{byte(a), byte(b)})
			upper, lower := strings.Index("0123456789abcdef", w[:1]), strings.Index("0123456789abcdef", w[1:])
			d, err := text.Parse("put 7 " + w)
			if upper < 0 || lower < 0 {
				if err != api.ErrForm {
					t.Errorf("Parse of data %q is %d", w, err)
				}
				continue
			}
			if err != api.OK || !like(d, put(7, string([]byte{byte(16*upper + lower)}))) {
				t.Errorf("Parse of data %q is %v, %d", w, d, err)
			}
		}
	}
}

func TestParseRange(t *testing.T) {
	for _, w := range []string{"0", "-1", "-7", "256", "257", "263", "1000", "65543", "4294967303", "9223372036854775807", "-9223372036854775808"} {
		refused(t, api.ErrRange, "put "+w+" -", "put "+w+" 6162", "put "+w+" 010203040506070809", "delete "+w, "purge "+w+" 1", "purge "+w+" 0", "purge "+w+" 60001")
	}
	for _, w := range []string{"0", "-1", "60001", "65536", "65537", "4294967297", "9223372036854775807", "-9223372036854775808"} {
		refused(t, api.ErrRange, "purge 7 "+w)
	}
}

func TestParseMuch(t *testing.T) {
	for size := 9; size < 40; size++ {
		refused(t, api.ErrMuch, "put 7 "+strings.Repeat("00", size), "put 255 "+strings.Repeat("f0", size))
	}
	refused(t, api.ErrMuch, "put 7 "+strings.Repeat("61", 256), "put 7 "+strings.Repeat("61", 264), "put 7 "+strings.Repeat("61", 100000))
}

// The document says nothing of texts of deeds that are not right; an empty one
// is refused when it is read, so nothing is printed that could not be.
func TestPrintOfWrongDeeds(t *testing.T) {
	for _, d := range []api.Deed{
		{}, {Kind: -1, Key: 7}, {Kind: 4, Key: 7}, {Kind: math.MinInt, Key: 7}, {Kind: math.MaxInt},
		{Kind: api.DeedPut}, put(256, "ab"), put(-1, "ab"), put(7, "123456789"), {Kind: api.DeedPut, Key: 7, N: 1},
		del(0), del(256), {Kind: api.DeedDelete, Key: 7, N: 1}, {Kind: api.DeedDelete, Key: 7, Data: []byte("a")},
		purge(7, 0), purge(7, 60001), purge(0, 1), purge(math.MinInt, math.MinInt), {Kind: api.DeedPurge, Key: 7, N: 1, Data: []byte("a")},
	} {
		if s := text.Print(d); s != "" {
			t.Errorf("Print(%v) is %q", d, s)
		}
	}
}

// What is read is written as it was read, whatever it is made of; so one deed
// has one text.
func TestWhatIsReadIsWrittenSo(t *testing.T) {
	words := []string{"put", "delete", "purge", "zap", "", "-", "0", "1", "7", "07", "10", "255", "256", "-1", "+1", "6162", "60000", "60001", "616", "6A", "0102030405060708", "010203040506070809"}
	right := 0
	for _, a := range words {
		for _, b := range words {
			for _, c := range words {
				for _, s := range []string{a, a + " " + b, a + " " + b + " " + c, a + " " + b + " " + c + " " + a, a + " " + b + " " + c + " "} {
					d, err := text.Parse(s)
					if err != api.OK {
						continue
					}
					right++
					if back := text.Print(d); back != s {
						t.Errorf("%q is read, and %q is written", s, back)
					}
				}
			}
		}
	}
	if right == 0 {
		t.Error("nothing is read")
	}
}

func TestDeedIsOnlyRead(t *testing.T) {
	room := []byte("abcdspare")
	d := api.Deed{Kind: api.DeedPut, Key: 7, Data: room[:4]}
	s := text.Print(d)
	if string(room) != "abcdspare" || d.Kind != api.DeedPut || d.Key != 7 || d.N != 0 || len(d.Data) != 4 {
		t.Errorf("it changed, to %v and %q", d, room)
	}
	for i := range room {
		room[i] ^= 255
	}
	if s != "put 7 61626364" {
		t.Errorf("the text is %q", s)
	}
}

func TestAnswersAreNew(t *testing.T) {
	const s = "put 7 0102030405060708"
	a, _ := text.Parse(s)
	for i := range a.Data[:cap(a.Data)] {
		a.Data[:cap(a.Data)][i] ^= 255
	}
	b, err := text.Parse(s)
	if err != api.OK || !like(b, put(7, "\x01\x02\x03\x04\x05\x06\x07\x08")) {
		t.Errorf("it changed with an earlier answer, to %v", b)
	}
}

func TestLongTexts(t *testing.T) {
	const much = 1 << 20
	refused(t, api.ErrKind, strings.Repeat("x", much), strings.Repeat(" ", much), strings.Repeat("put", much))
	refused(t, api.ErrForm, "put"+strings.Repeat(" ", much), "put 7 "+strings.Repeat("-", much), "put 7 "+strings.Repeat("0", much+1), "delete "+strings.Repeat("7", much), "purge 7 -"+strings.Repeat("1", much))
	refused(t, api.ErrMuch, "put 7 "+strings.Repeat("0", much))
}

func FuzzParse(f *testing.F) {
	for _, w := range known() {
		f.Add(w.s)
	}
	f.Fuzz(func(t *testing.T, s string) {
		d, err := text.Parse(s)
		if err == api.OK && text.Print(d) != s {
			t.Errorf("%q is read as %v", s, d)
		}
	})
}
