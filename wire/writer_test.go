package wire_test

import (
	"bytes"
	"math"
	"strings"
	"testing"

	"cairn/api"
	"cairn/wire"
)

// written tells what a new Writer holds behind some puts that it must take.
func written(t *testing.T, puts ...func(w *wire.Writer)) []byte {
	t.Helper()
	var w wire.Writer
	for _, put := range puts {
		put(&w)
	}
	b, e := w.Done()
	if e != api.OK {
		t.Fatalf("Done: %v", e)
	}
	return b
}

func num(n int) func(w *wire.Writer)     { return func(w *wire.Writer) { w.Num(n) } }
func integer(n int) func(w *wire.Writer) { return func(w *wire.Writer) { w.Int(n) } }
func list(b []byte) func(w *wire.Writer) { return func(w *wire.Writer) { w.Bytes(b) } }
func text(s string) func(w *wire.Writer) { return func(w *wire.Writer) { w.Text(s) } }

func mustTell(t *testing.T, w *wire.Writer, want []byte, e api.Errno) {
	t.Helper()
	if b, f := w.Done(); !bytes.Equal(b, want) || f != e {
		t.Errorf("Done: %v, %v; want %v, %v", b, f, want, e)
	}
}

// full is so many bytes 255 and some behind them.
func full(n int, behind ...byte) []byte {
	return append(bytes.Repeat([]byte{255}, n), behind...)
}

func TestP101Num(t *testing.T) {
	for _, c := range []struct {
		n    int
		want []byte
	}{
		{0, []byte{0}}, {1, []byte{1}}, {127, []byte{127}}, {128, []byte{128, 1}}, {129, []byte{129, 1}},
		{20000, []byte{160, 156, 1}}, {1<<14 - 1, []byte{255, 127}}, {1 << 14, []byte{128, 128, 1}},
		{api.MaxNum, []byte{128, 128, 128, 128, 128, 32}},
		{1<<56 - 1, full(7, 127)}, {1 << 56, append(bytes.Repeat([]byte{128}, 8), 1)}, {math.MaxInt, full(8, 127)},
	} {
		if b := written(t, num(c.n)); !bytes.Equal(b, c.want) {
			t.Errorf("Num %d: %v; want %v", c.n, b, c.want)
		}
	}
}

func TestP101Int(t *testing.T) {
	for _, c := range []struct {
		n    int
		want []byte
	}{
		{0, []byte{0}}, {-1, []byte{1}}, {1, []byte{2}}, {-2, []byte{3}}, {63, []byte{126}}, {-64, []byte{127}},
		{64, []byte{128, 1}}, {-65, []byte{129, 1}}, {math.MaxInt, append([]byte{254}, full(8, 1)...)}, {math.MinInt, full(9, 1)},
		{math.MinInt / 2, full(8, 127)}, {math.MaxInt/2 + 1, append(bytes.Repeat([]byte{128}, 9), 1)},
	} {
		if b := written(t, integer(c.n)); !bytes.Equal(b, c.want) {
			t.Errorf("Int %d: %v; want %v", c.n, b, c.want)
		}
	}
}

func TestP101BytesAndText(t *testing.T) {
	long := strings.Repeat("\x00\xff/", 100)
	for _, c := range []struct {
		s    string
		want string
	}{
		{"", "\x00"}, {"\x09\x08", "\x02\x09\x08"}, {"ox", "\x02ox"}, {"\xff\x00", "\x02\xff\x00"}, {"hé", "\x03h\xc3\xa9"},
		{long[:127], "\x7f" + long[:127]}, {long[:128], "\x80\x01" + long[:128]}, {long, "\xac\x02" + long},
	} {
		if b := written(t, text(c.s)); string(b) != c.want {
			t.Errorf("Text %q: %q", c.s, b)
		}
		if b := written(t, list([]byte(c.s))); string(b) != c.want {
			t.Errorf("Bytes %q: %q", c.s, b)
		}
	}
	if b := written(t, list(nil)); !bytes.Equal(b, []byte{0}) {
		t.Errorf("Bytes of no list: %v", b)
	}
}

func TestP101DoneTellsAllInOrder(t *testing.T) {
	var w wire.Writer
	mustTell(t, &w, nil, api.OK)
	w.Num(128)
	mustTell(t, &w, []byte{128, 1}, api.OK)
	w.Bytes([]byte{9, 8})
	w.Int(-64)
	mustTell(t, &w, []byte{128, 1, 2, 9, 8, 127}, api.OK)
	mustTell(t, &w, []byte{128, 1, 2, 9, 8, 127}, api.OK)
	w.Text("ox")
	w.Num(0)
	mustTell(t, &w, []byte{128, 1, 2, 9, 8, 127, 2, 111, 120, 0}, api.OK)
}

func TestP101NumBelowZero(t *testing.T) {
	for _, n := range []int{-1, -2, math.MinInt} {
		var w wire.Writer
		w.Num(5)
		mustTell(t, &w, []byte{5}, api.OK)
		w.Num(n)
		mustTell(t, &w, nil, api.ErrArg)
		w.Num(6)
		w.Int(-1)
		w.Bytes([]byte{1})
		w.Text("ox")
		mustTell(t, &w, nil, api.ErrArg)
		mustTell(t, &w, nil, api.ErrArg)
	}
}

func TestP2WriterSharesNothing(t *testing.T) {
	var w wire.Writer
	room := []byte{9, 8, 7, 6}
	w.Bytes(room[:2])
	if !bytes.Equal(room, []byte{9, 8, 7, 6}) {
		t.Errorf("what was handed in was changed: %v", room)
	}
	room[0] = 1
	first, _ := w.Done()
	spoil(first)
	second, _ := w.Done()
	w.Num(5)
	if !bytes.Equal(second, []byte{2, 9, 8}) {
		t.Errorf("an answer was kept or shared: %v", second)
	}
	spoil(second)
	mustTell(t, &w, []byte{2, 9, 8, 5}, api.OK)
}

// spoil writes over a list and its spare room.
func spoil(b []byte) {
	b = b[:cap(b)]
	for i := range b {
		b[i] = 0xEE
	}
}
