// Package wire: numbers, texts and bytes as bytes, and a body with its sums. See doc/01-wire.md.
package wire

// Of varints: the most bytes that one has, and what is added to each of its bytes that has another one behind it.
const (
	longest = 10
	more    = 128
)

// The sign goes into the lowest bit, so that numbers near 0 on either side are short.
func zigzag(n int) uint64 {
	if n < 0 {
		return 2*uint64(-(n+1)) + 1
	}
	return 2 * uint64(n)
}

func unzigzag(u uint64) int {
	if u%2 == 1 {
		return -int(u/2) - 1
	}
	return int(u / 2)
}
