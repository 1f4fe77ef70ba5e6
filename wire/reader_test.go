package wire_test

import (
	"bytes"
	"math"
	"testing"

	"cairn/api"
	"cairn/wire"
)

func mustErr(t *testing.T, r *wire.Reader, place int, e api.Errno) {
	t.Helper()
	if p, f := r.Err(); p != place || f != e {
		t.Errorf("Err: %d, %v; want %d, %v", p, f, place, e)
	}
}

// mustBeDead looks that each call behind a fault tells nothing, and that the first fault stays.
func mustBeDead(t *testing.T, r *wire.Reader, place int, e api.Errno) {
	t.Helper()
	mustErr(t, r, place, e)
	for range 2 {
		if n := r.Num(); n != 0 {
			t.Errorf("Num behind a fault: %d", n)
		}
		if n := r.Int(); n != 0 {
			t.Errorf("Int behind a fault: %d", n)
		}
		if b := r.Bytes(); len(b) != 0 {
			t.Errorf("Bytes behind a fault: %v", b)
		}
		if s := r.Text(); s != "" {
			t.Errorf("Text behind a fault: %q", s)
		}
		if r.More() {
			t.Error("More behind a fault")
		}
		r.End()
		mustErr(t, r, place, e)
	}
}

func TestP102Example4(t *testing.T) {
	r := wire.Read([]byte{128, 1, 7})
	if n := r.Num(); n != 128 || !r.More() {
		t.Errorf("Num: %d, More: %v", n, r.More())
	}
	if n := r.Num(); n != 7 || r.More() {
		t.Errorf("Num: %d, More: %v", n, r.More())
	}
	r.End()
	mustErr(t, r, 0, api.OK)
	if n := r.Num(); n != 0 {
		t.Errorf("Num behind the end: %d", n)
	}
	mustBeDead(t, r, 3, api.ErrCut)
}

func TestP102Numbers(t *testing.T) {
	ten := bytes.Repeat([]byte{128}, 10)
	for _, c := range []struct {
		b       []byte
		num     int
		numErr  api.Errno
		zig     int
		zigErr  api.Errno
		isWhole bool // nothing is left behind it
	}{
		{[]byte{0}, 0, api.OK, 0, api.OK, true},
		{[]byte{3}, 3, api.OK, -2, api.OK, true},
		{[]byte{127}, 127, api.OK, -64, api.OK, true},
		{[]byte{128, 1}, 128, api.OK, 64, api.OK, true},
		{[]byte{160, 156, 1}, 20000, api.OK, 10000, api.OK, true},
		{[]byte{0, 0}, 0, api.OK, 0, api.OK, false},
		{[]byte{5, 255}, 5, api.OK, -3, api.OK, false},
		{full(8, 127), math.MaxInt, api.OK, math.MinInt / 2, api.OK, true},
		{append(ten[:9:9], 1), 0, api.ErrForm, math.MaxInt/2 + 1, api.OK, true},
		{full(9, 1), 0, api.ErrForm, math.MinInt, api.OK, true},
		{append([]byte{254}, full(8, 1)...), 0, api.ErrForm, math.MaxInt, api.OK, true},
		{full(9, 1, 7), 0, api.ErrForm, math.MinInt, api.OK, false},
		// the bytes run out
		{nil, 0, api.ErrCut, 0, api.ErrCut, true},
		{[]byte{128}, 0, api.ErrCut, 0, api.ErrCut, true},
		{[]byte{255, 128}, 0, api.ErrCut, 0, api.ErrCut, true},
		{ten[:9], 0, api.ErrCut, 0, api.ErrCut, true},
		{full(9), 0, api.ErrCut, 0, api.ErrCut, true},
		// not of fewest bytes
		{[]byte{128, 0}, 0, api.ErrForm, 0, api.ErrForm, true},
		{[]byte{255, 0}, 0, api.ErrForm, 0, api.ErrForm, true},
		{[]byte{129, 128, 0, 1}, 0, api.ErrForm, 0, api.ErrForm, true},
		{append(ten[:9:9], 0), 0, api.ErrForm, 0, api.ErrForm, true},
		// too great, or no end within ten
		{append(ten[:9:9], 2), 0, api.ErrForm, 0, api.ErrForm, true},
		{append(ten[:9:9], 3), 0, api.ErrForm, 0, api.ErrForm, true},
		{full(9, 127), 0, api.ErrForm, 0, api.ErrForm, true},
		{ten, 0, api.ErrForm, 0, api.ErrForm, true},
		{append(ten[:10:10], 1), 0, api.ErrForm, 0, api.ErrForm, true},
		{full(40), 0, api.ErrForm, 0, api.ErrForm, true},
	} {
		mustRead(t, "Num", c.b, (*wire.Reader).Num, c.num, c.numErr, c.isWhole)
		mustRead(t, "Int", c.b, (*wire.Reader).Int, c.zig, c.zigErr, c.isWhole)
	}
}

// mustRead reads one number, at the beginning and behind three others: the place of a fault is where the call began.
func mustRead(t *testing.T, name string, b []byte, read func(r *wire.Reader) int, want int, e api.Errno, isWhole bool) {
	t.Helper()
	for _, ahead := range [][]byte{nil, {1, 128, 1, 0}} {
		r := wire.Read(append(bytes.Clone(ahead), b...))
		if ahead != nil && (r.Num() != 1 || r.Int() != 64 || len(r.Bytes()) != 0) {
			t.Fatalf("%s of %v: what is ahead", name, b)
		}
		if n := read(r); n != want {
			t.Errorf("%s of %v: %d, want %d", name, b, n, want)
		}
		if e != api.OK {
			mustBeDead(t, r, len(ahead), e)
			continue
		}
		mustErr(t, r, 0, api.OK)
		if r.More() == isWhole {
			t.Errorf("%s of %v: More: %v", name, b, r.More())
		}
	}
}

func TestP102BytesAndText(t *testing.T) {
	for _, c := range []struct {
		b    []byte
		want []byte
		e    api.Errno
	}{
		{[]byte{0}, nil, api.OK},
		{[]byte{0, 7}, nil, api.OK},
		{[]byte{2, 111, 120}, []byte("ox"), api.OK},
		{[]byte{1, 128, 5}, []byte{128}, api.OK},
		{append([]byte{128, 1}, full(128)...), full(128), api.OK},
		{nil, nil, api.ErrCut},
		{[]byte{128}, nil, api.ErrCut},
		{[]byte{1}, nil, api.ErrCut},
		{[]byte{3, 129, 1}, nil, api.ErrCut},
		{append([]byte{128, 1}, full(127)...), nil, api.ErrCut},
		{full(8, 127, 1, 1), nil, api.ErrCut},
		{[]byte{129, 0, 1}, nil, api.ErrForm},
		{full(9, 1, 1), nil, api.ErrForm},
		{full(12), nil, api.ErrForm},
	} {
		ahead := []byte{4}
		r := wire.Read(append(ahead, c.b...))
		r.Num()
		if b := r.Bytes(); !bytes.Equal(b, c.want) {
			t.Errorf("Bytes of %v: %v", c.b, b)
		}
		s := wire.Read(append(ahead, c.b...))
		s.Num()
		if x := s.Text(); x != string(c.want) {
			t.Errorf("Text of %v: %q", c.b, x)
		}
		if c.e != api.OK {
			mustBeDead(t, r, 1, c.e)
			mustBeDead(t, s, 1, c.e)
			continue
		}
		mustErr(t, r, 0, api.OK)
		mustErr(t, s, 0, api.OK)
	}
}

func TestP102GoesOnBehind(t *testing.T) {
	r := wire.Read([]byte{2, 9, 8, 3, 1, 120, 160, 156, 1, 0, 128})
	if b := r.Bytes(); !bytes.Equal(b, []byte{9, 8}) {
		t.Errorf("Bytes: %v", b)
	}
	if n := r.Int(); n != -2 {
		t.Errorf("Int: %d", n)
	}
	if s := r.Text(); s != "x" {
		t.Errorf("Text: %q", s)
	}
	if n := r.Num(); n != 20000 {
		t.Errorf("Num: %d", n)
	}
	if s := r.Text(); s != "" || !r.More() {
		t.Errorf("Text: %q, More: %v", s, r.More())
	}
	mustErr(t, r, 0, api.OK)
	r.Bytes()
	mustBeDead(t, r, 10, api.ErrCut)
}

func TestP102EndAndMore(t *testing.T) {
	r := wire.Read([]byte{1, 2})
	if n := r.Num(); n != 1 {
		t.Errorf("Num: %d", n)
	}
	r.End()
	mustBeDead(t, r, 1, api.ErrForm)

	r = wire.Read([]byte{7})
	r.End()
	mustBeDead(t, r, 0, api.ErrForm)

	r = wire.Read(nil)
	if r.More() {
		t.Error("More of no bytes")
	}
	r.End()
	r.End()
	mustErr(t, r, 0, api.OK)
}

func TestP102FirstFaultStays(t *testing.T) {
	r := wire.Read([]byte{4, 3, 129})
	if n := r.Num(); n != 4 {
		t.Errorf("Num: %d", n)
	}
	if b := r.Bytes(); len(b) != 0 {
		t.Errorf("Bytes: %v", b)
	}
	mustBeDead(t, r, 1, api.ErrCut)
}

func TestP2ReaderSharesNothing(t *testing.T) {
	b := []byte{2, 9, 8, 2, 7, 6, 1, 120}
	r := wire.Read(b)
	spoil(b)
	first := r.Bytes()
	second := r.Bytes()
	if !bytes.Equal(first, []byte{9, 8}) || !bytes.Equal(second, []byte{7, 6}) {
		t.Errorf("what was handed in was kept: %v %v", first, second)
	}
	spoil(first)
	if !bytes.Equal(second, []byte{7, 6}) {
		t.Errorf("two answers share memory: %v", second)
	}
	spoil(second)
	if s := r.Text(); s != "x" {
		t.Errorf("an answer shares the reader's memory: %q", s)
	}

	b = []byte{128, 1, 2, 9, 8}
	r = wire.Read(b)
	r.Num()
	spoil(r.Bytes())
	if !bytes.Equal(b, []byte{128, 1, 2, 9, 8}) {
		t.Errorf("what was handed in was changed: %v", b)
	}
	other := wire.Read(b)
	if n := other.Num(); n != 128 {
		t.Errorf("two readers over the same bytes: %d", n)
	}
}
