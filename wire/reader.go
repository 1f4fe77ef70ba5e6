package wire

import (
	"bytes"
	"math"

	"cairn/api"
)

// Reader reads what a Writer put; from its first fault on it tells nothing.
type Reader struct {
	left  []byte    // what is not read yet; none behind a fault
	at    int       // the place at which left begins
	place int       // of the first fault
	fault api.Errno // the first one
}

// Read is a reader over bytes.
func Read(b []byte) *Reader {
	return &Reader{left: bytes.Clone(b)}
}

// Num reads a number that is not below 0.
func (r *Reader) Num() int {
	var n int
	r.catch(func() { n = r.num() })
	return n
}

// Int reads any number.
func (r *Reader) Int() int {
	var n int
	r.catch(func() { n = unzigzag(r.varint()) })
	return n
}

// Bytes reads bytes that have their number ahead.
func (r *Reader) Bytes() []byte {
	var b []byte
	r.catch(func() { b = bytes.Clone(r.counted()) })
	return b
}

// Text reads a text that has the number of its bytes ahead.
func (r *Reader) Text() string {
	var s string
	r.catch(func() { s = string(r.counted()) })
	return s
}

// More: are there bytes left, and was there no fault?
func (r *Reader) More() bool {
	return len(r.left) > 0
}

// End looks that nothing is left.
func (r *Reader) End() {
	r.catch(func() {
		if r.More() {
			panic(api.ErrForm)
		}
	})
}

// Err tells the first fault, and its place.
func (r *Reader) Err() (int, api.Errno) {
	return r.place, r.fault
}

// The place of a fault is where the call began, which what throws it, deep inside, has passed: so it is kept here.
func (r *Reader) catch(call func()) {
	if r.fault != api.OK {
		return
	}
	began := r.at
	defer func() {
		if thrown, ok := recover().(api.Errno); ok {
			*r = Reader{place: began, fault: thrown}
		}
	}()
	call()
}

// From here on down a fault is thrown as an Errno; what is read is still the reader's own memory.

func (r *Reader) num() int {
	u := r.varint()
	if u > math.MaxInt64 {
		panic(api.ErrForm)
	}
	return int(u)
}

func (r *Reader) counted() []byte {
	n := r.num()
	if n > len(r.left) {
		panic(api.ErrCut)
	}
	return r.take(n)
}

func (r *Reader) varint() uint64 {
	u := uint64(0)
	for i := range longest {
		if i == len(r.left) {
			panic(api.ErrCut)
		}
		b := r.left[i]
		u |= uint64(b%more) << (7 * i)
		if b < more {
			checkLast(i, b)
			r.take(i + 1)
			return u
		}
	}
	panic(api.ErrForm)
}

// A last byte of 0 says nothing that one byte less would not; the tenth holds the one bit that nine sevens leave of 64.
func checkLast(i int, b byte) {
	if i > 0 && b == 0 || i == longest-1 && b > 1 {
		panic(api.ErrForm)
	}
}

func (r *Reader) take(n int) []byte {
	taken := r.left[:n]
	r.left = r.left[n:]
	r.at += n
	return taken
}
