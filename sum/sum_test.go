package sum_test

import (
	"bytes"
	"math"
	"math/big"
	"strings"
	"testing"

	"scrubstore/sum"
)

// samples are byte lists of many lengths and shapes, without any and long ones among them.
func samples() [][]byte {
	out := [][]byte{nil, {}, {0}, {1}, {255}, {0, 0}, {0, 3}, {255, 255}, []byte("ab"), []byte("hello")}
	for _, n := range []int{14, 16, 40, 257, 2000} {
		mixed := make([]byte, n)
		for i := range mixed {
			mixed[i] = byte(i*i*7 + i + n)
		}
		out = append(out, mixed, make([]byte, n), bytes.Repeat([]byte{255}, n))
	}
	return out
}

// wholeSum works the sum out without a rest in between: 3 times 131 to the
// length, and each byte and 1, 131 times as much for each one behind it.
func wholeSum(b []byte) int {
	total, power := new(big.Int), big.NewInt(1)
	factor := big.NewInt(131)
	for i := len(b) - 1; i >= 0; i-- {
		total.Add(total, new(big.Int).Mul(power, big.NewInt(int64(b[i])+1)))
		power.Mul(power, factor)
	}
	total.Add(total, power.Mul(power, big.NewInt(3)))
	return int(total.Mod(total, big.NewInt(65521)).Int64())
}

func TestOfKnownSums(t *testing.T) {
	for _, c := range []struct {
		b    string
		want int
	}{
		{"", 3},
		{"\x00", 394},
		{"\xff", 649},
		{"a", 491},
		{"ab", 64420},
		{"ba", 64550},
		{"\x00\x00", 51615},
		{"hello", 31291},
		{strings.Repeat("\xff", 40), 33797},
	} {
		if got := sum.Of([]byte(c.b)); got != c.want {
			t.Errorf("Of(%q) is %d, not %d", c.b, got, c.want)
		}
	}
	if got := sum.Of(nil); got != 3 {
		t.Errorf("Of(nil) is %d, not 3", got)
	}
}

func TestOfTakesTheRestOfTheWhole(t *testing.T) {
	for _, b := range samples() {
		if got, want := sum.Of(b), wholeSum(b); got != want {
			t.Errorf("Of(%v) is %d, not %d", b, got, want)
		}
	}
}

func TestOfIsBelow65521(t *testing.T) {
	least, greatest := math.MaxInt, math.MinInt
	for n := range 1 << 16 {
		b := []byte{byte(n >> 8), byte(n)}
		got := sum.Of(b)
		if want := ((3*131+int(b[0])+1)*131 + int(b[1]) + 1) % 65521; got != want {
			t.Fatalf("Of(%v) is %d, not %d", b, got, want)
		}
		least, greatest = min(least, got), max(greatest, got)
	}
	if least != 0 || greatest != 65520 {
		t.Errorf("sums are from %d to %d, not from 0 to 65520", least, greatest)
	}
}

func TestTwoKnownBytes(t *testing.T) {
	for _, c := range []struct {
		n    int
		want []byte
	}{
		{0, []byte{0, 0}},
		{1, []byte{0, 1}},
		{255, []byte{0, 255}},
		{256, []byte{1, 0}},
		{258, []byte{1, 2}},
		{65280, []byte{255, 0}},
		{65535, []byte{255, 255}},
	} {
		if got := sum.Two(c.n); !bytes.Equal(got, c.want) {
			t.Errorf("Two(%d) is %v, not %v", c.n, got, c.want)
		}
	}
}

func TestNumberKnownNumbers(t *testing.T) {
	for _, c := range []struct {
		a, b byte
		want int
	}{
		{0, 0, 0}, {0, 1, 1}, {0, 255, 255}, {1, 0, 256}, {1, 2, 258}, {128, 0, 32768}, {255, 255, 65535},
	} {
		if got := sum.Number(c.a, c.b); got != c.want {
			t.Errorf("Number(%d, %d) is %d, not %d", c.a, c.b, got, c.want)
		}
	}
}

func TestTwoThereAndNumberBack(t *testing.T) {
	for n := range 1 << 16 {
		b := sum.Two(n)
		if len(b) != 2 || int(b[0]) != n/256 || int(b[1]) != n%256 {
			t.Fatalf("Two(%d) is %v", n, b)
		}
		if got := sum.Number(b[0], b[1]); got != n {
			t.Fatalf("Number of Two(%d) is %d", n, got)
		}
	}
}

// The document says nothing of such numbers but that no call panics.
func TestTwoOfNumbersOutOfRange(t *testing.T) {
	for _, n := range []int{-1, -256, 65536, 65537, math.MinInt, math.MaxInt} {
		if got := sum.Two(n); len(got) != 2 {
			t.Errorf("Two(%d) is %v, not two bytes", n, got)
		}
	}
}

func TestTwoAnswersNewMemory(t *testing.T) {
	first := sum.Two(258)
	second := sum.Two(258)
	clear(first[:cap(first)])
	if want := []byte{1, 2}; !bytes.Equal(second, want) || !bytes.Equal(sum.Two(258), want) {
		t.Error("what Two answers hangs on what was done to an earlier answer")
	}
}

func TestSealKnownBytes(t *testing.T) {
	for _, c := range []struct {
		b    string
		want []byte
	}{
		{"", []byte{0, 3}},
		{"a", []byte{'a', 1, 235}},
		{"ab", []byte{'a', 'b', 251, 164}},
		{"hello", []byte{'h', 'e', 'l', 'l', 'o', 122, 59}},
	} {
		if got := sum.Seal([]byte(c.b)); !bytes.Equal(got, c.want) {
			t.Errorf("Seal(%q) is %v, not %v", c.b, got, c.want)
		}
	}
	if got := sum.Seal(nil); !bytes.Equal(got, []byte{0, 3}) {
		t.Errorf("Seal(nil) is %v, not [0 3]", got)
	}
}

func TestSealPutsTheSumBehind(t *testing.T) {
	for _, b := range samples() {
		n := wholeSum(b)
		want := append(append([]byte{}, b...), byte(n/256), byte(n%256))
		if got := sum.Seal(b); !bytes.Equal(got, want) {
			t.Errorf("Seal(%v) is %v, not %v", b, got, want)
		}
	}
}

func TestSealLeavesWhatItIsHanded(t *testing.T) {
	room := []byte("abcdef")
	kept := append([]byte{}, room...)
	sealed := sum.Seal(room[:2])
	if !bytes.Equal(room, kept) {
		t.Fatalf("Seal made %v of %v", room, kept)
	}
	if want := sum.Seal([]byte("ab")); !bytes.Equal(sealed, want) {
		t.Errorf("with spare room behind, Seal answers %v, not %v", sealed, want)
	}

	told := append([]byte{}, sealed...)
	clear(room)
	if !bytes.Equal(sealed, told) {
		t.Error("what Seal answered changed with what it was handed")
	}
	copy(room, kept)
	clear(sealed[:cap(sealed)])
	if !bytes.Equal(room, kept) {
		t.Error("what Seal was handed changed with what it answered")
	}
}

func TestSealedOfSealed(t *testing.T) {
	for _, b := range samples() {
		sealed := sum.Seal(b)
		kept := append([]byte{}, sealed...)
		if !sum.Sealed(sealed) {
			t.Errorf("Seal(%v) is not Sealed", b)
		}
		if !sum.Sealed(sum.Seal(sealed)) {
			t.Errorf("Seal(%v), sealed once more, is not Sealed", b)
		}
		if !bytes.Equal(sealed, kept) {
			t.Errorf("Sealed changed %v to %v", kept, sealed)
		}
	}
}

func TestSealedOfFewerThanTwoBytes(t *testing.T) {
	if sum.Sealed(nil) || sum.Sealed([]byte{}) {
		t.Error("no bytes at all are Sealed")
	}
	for x := range 256 {
		if sum.Sealed([]byte{byte(x)}) {
			t.Errorf("the byte %d alone is Sealed", x)
		}
	}
}

// Of two bytes just those of the sum of nothing are sealed; a greater number with the same rest is not.
func TestSealedOfTwoBytes(t *testing.T) {
	for n := range 1 << 16 {
		b := []byte{byte(n >> 8), byte(n)}
		if got := sum.Sealed(b); got != (n == 3) {
			t.Errorf("Sealed(%v) is %v", b, got)
		}
	}
}

func TestSealedDoesNotLookAtSpareRoom(t *testing.T) {
	sealed := sum.Seal([]byte("hello"))
	for n := range sealed {
		if sum.Sealed(sealed[:n]) {
			t.Errorf("the first %d bytes are Sealed, with the rest behind", n)
		}
	}
	longer := append(append([]byte{}, sealed...), 1, 2, 3)
	if !sum.Sealed(longer[:len(sealed)]) {
		t.Error("sealed bytes are not Sealed, with other ones behind")
	}
}

func TestOneByteTurnedIsFound(t *testing.T) {
	for _, s := range []string{"", "a", "ab", "hello", "\x00\x00\x00", strings.Repeat("\xff", 14), strings.Repeat("xyz", 30)} {
		sealed := sum.Seal([]byte(s))
		for at := range sealed {
			for by := 1; by < 256; by++ {
				sealed[at] ^= byte(by)
				if sum.Sealed(sealed) {
					t.Errorf("Seal(%q) with byte %d turned by %d is Sealed", s, at, by)
				}
				sealed[at] ^= byte(by)
			}
		}
	}
}

func TestSealedOfSumBytesInTheWrongOrder(t *testing.T) {
	if sum.Sealed([]byte{'a', 235, 1}) {
		t.Error("a sum whose lower byte stands first is Sealed")
	}
}
