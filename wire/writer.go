package wire

import (
	"bytes"

	"cairn/api"
)

// Writer puts numbers, texts and bytes behind one another. Its zero value is an empty one.
type Writer struct {
	put []byte
	bad bool // a number below 0 was handed in
}

// Num puts a number that is not below 0.
func (w *Writer) Num(n int) {
	if n < 0 {
		// Done refuses from now on, so nothing that was put is told again.
		*w = Writer{bad: true}
		return
	}
	w.varint(uint64(n))
}

// Int puts any number.
func (w *Writer) Int(n int) {
	w.varint(zigzag(n))
}

// Bytes puts bytes with their number ahead.
func (w *Writer) Bytes(b []byte) {
	w.Num(len(b))
	w.join(b)
}

// Text puts a text's bytes with their number ahead.
func (w *Writer) Text(s string) {
	w.Bytes([]byte(s))
}

// Done tells all that was put, and whether it may be.
func (w *Writer) Done() ([]byte, api.Errno) {
	if w.bad {
		return nil, api.ErrArg
	}
	return bytes.Clone(w.put), api.OK
}

func (w *Writer) varint(u uint64) {
	for u >= more {
		w.join([]byte{byte(u%more) + more})
		u /= more
	}
	w.join([]byte{byte(u)})
}

func (w *Writer) join(b []byte) {
	if !w.bad {
		w.put = append(w.put, b...)
	}
}
