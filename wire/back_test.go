package wire_test

import (
	"bytes"
	"math"
	"strings"
	"testing"

	"cairn/api"
	"cairn/wire"
)

func TestP103ThereAndBack(t *testing.T) {
	numbers := []int{0, 1, math.MaxInt}
	for s := range 63 {
		numbers = append(numbers, 1<<s-1, 1<<s, 1<<s+1)
	}
	texts := []string{"", "ox", "\x00", "\xff\xfe/", strings.Repeat("ab", 64), strings.Repeat("c", 1<<14)}
	var w wire.Writer
	for _, n := range numbers {
		w.Num(n)
		w.Int(n)
		w.Int(-n)
		w.Int(-n - 1)
	}
	for _, s := range texts {
		w.Text(s)
		w.Bytes([]byte(s))
	}
	b, e := w.Done()
	if e != api.OK {
		t.Fatalf("Done: %v", e)
	}
	r := wire.Read(b)
	for _, n := range numbers {
		if a, b, c, d := r.Num(), r.Int(), r.Int(), r.Int(); a != n || b != n || c != -n || d != -n-1 {
			t.Errorf("%d: %d %d %d %d", n, a, b, c, d)
		}
	}
	for _, s := range texts {
		if a, b := r.Text(), r.Bytes(); a != s || string(b) != s {
			t.Errorf("%q: %q %q", s, a, b)
		}
	}
	if r.More() {
		t.Error("something is left")
	}
	r.End()
	mustErr(t, r, 0, api.OK)
}

// again reads bytes by calls, which stand as digits to the base 4 and come round, and puts what they answer: the bytes, if there was no fault.
func again(b []byte, calls int) ([]byte, bool) {
	r := wire.Read(b)
	var w wire.Writer
	for c := calls; r.More(); c = c/4 | c%4<<6 {
		switch c % 4 {
		case 0:
			w.Num(r.Num())
		case 1:
			w.Int(r.Int())
		case 2:
			w.Bytes(r.Bytes())
		case 3:
			w.Text(r.Text())
		}
	}
	if _, e := r.Err(); e != api.OK {
		return nil, false
	}
	x, e := w.Done()
	return x, e == api.OK
}

func TestP103BackAndThere(t *testing.T) {
	edges := []byte{0, 1, 2, 3, 126, 127, 128, 129, 254, 255}
	var rows [][]byte
	last := [][]byte{nil}
	for range 4 {
		var next [][]byte
		for _, row := range last {
			for _, x := range edges {
				next = append(next, append(bytes.Clone(row), x))
			}
		}
		rows = append(rows, next...)
		last = next
	}
	for _, tail := range last[:1000] { // those that end a varint of ten bytes
		rows = append(rows, append(full(6), tail...), append(full(7), tail...))
	}
	read := 0
	for _, row := range rows {
		for calls := range 256 {
			x, ok := again(row, calls)
			if ok {
				read++
			}
			if ok && !bytes.Equal(x, row) {
				t.Fatalf("%v read by calls %d: %v is put", row, calls, x)
			}
		}
	}
	if read < len(rows) {
		t.Errorf("only %d of %d rows of bytes were read", read, len(rows))
	}
}

func FuzzP103(f *testing.F) {
	f.Add([]byte{128, 1, 7, 2, 111, 120}, 0)
	f.Add(full(9, 1), 1)
	f.Fuzz(func(t *testing.T, b []byte, calls int) {
		if x, ok := again(b, calls&255); ok && !bytes.Equal(x, b) {
			t.Errorf("%v: %v", b, x)
		}
	})
}
