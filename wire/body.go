package wire

import (
	"bytes"

	"cairn/api"
)

// A number and a sum have four bytes each; a head is one of both.
const (
	fourLen = 4
	headLen = 2 * fourLen
)

// Seal puts a head and sums around a body.
func Seal(body []byte) []byte {
	if len(body) > api.MaxBytes {
		return nil
	}
	sealed := make([]byte, 0, headLen+len(body)+fourLen)
	sealed = putFour(sealed, len(body))
	sealed = putFour(sealed, Sum(sealed))
	sealed = append(sealed, body...)
	return putFour(sealed, Sum(sealed))
}

// Open takes head and sums off.
func Open(b []byte) ([]byte, api.Errno) {
	if len(b) < headLen {
		return nil, api.ErrCut
	}
	// The length is believed only behind its own sum: a wrong one would put the body's sum elsewhere.
	if four(b[fourLen:]) != Sum(b[:fourLen]) {
		return nil, api.ErrSum
	}
	length := four(b)
	if length > api.MaxBytes {
		return nil, api.ErrLong
	}
	end := headLen + length
	switch {
	case len(b) < end+fourLen:
		return nil, api.ErrCut
	case len(b) > end+fourLen:
		return nil, api.ErrForm
	case four(b[end:]) != Sum(b[:end]):
		return nil, api.ErrSum
	}
	return bytes.Clone(b[headLen:end]), api.OK
}

func putFour(b []byte, n int) []byte {
	return append(b, byte(n), byte(n>>8), byte(n>>16), byte(n>>24))
}

func four(b []byte) int {
	return int(b[0]) | int(b[1])<<8 | int(b[2])<<16 | int(b[3])<<24
}

// What the sum's register is exclusive-ored with when it loses a set bit.
const turn uint32 = 2197175160

// Sum is the checksum.
func Sum(b []byte) int {
	register := ^uint32(0)
	for _, x := range b {
		register ^= uint32(x)
		for range 8 {
			register = shift(register)
		}
	}
	return int(^register)
}

func shift(register uint32) uint32 {
	if register&1 == 1 {
		return register>>1 ^ turn
	}
	return register >> 1
}
