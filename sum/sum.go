// Package sum has sums of bytes, and numbers as bytes: see doc/01-sum.md.
package sum

// The rest is taken by a prime: a byte that is turned then always turns the
// sum too, wherever it stands.
const (
	start  = 3
	factor = 131
	rest   = 65521
)

// sealSize is how many bytes a sum takes behind what it seals.
const sealSize = 2

// Of is the sum of b.
func Of(b []byte) int {
	n := start
	for _, x := range b {
		n = (n*factor + int(x) + 1) % rest
	}
	return n
}

// Two is the upper and the lower byte of n. Of a number that two bytes can't
// hold it is the lowest sixteen bits: callers may count on two bytes.
func Two(n int) []byte {
	return []byte{byte(n >> 8), byte(n)}
}

// Number is the number whose upper byte is a, and whose lower byte is b.
func Number(a, b byte) int {
	return int(a)<<8 | int(b)
}

// Seal is b with its sum behind, in memory of its own: the spare room behind b
// is the caller's.
func Seal(b []byte) []byte {
	sealed := make([]byte, 0, len(b)+sealSize)
	sealed = append(sealed, b...)
	return append(sealed, Two(Of(b))...)
}

// Sealed tells whether the last two bytes of b are the sum of those ahead.
func Sealed(b []byte) bool {
	end := len(b) - sealSize
	return end >= 0 && Number(b[end], b[end+1]) == Of(b[:end])
}
