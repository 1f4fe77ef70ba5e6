package msg_test

import (
	"fmt"
	"math"
	"slices"
	"testing"

	"cairn/api"
	"cairn/msg"
)

func mustBucket(t *testing.T, x api.Bucket, c api.Config) {
	t.Helper()
	if e := msg.Bucket(x, c); e != want(isBucket(x, c), api.ErrArg) {
		t.Fatalf("%+v: %v", x, e)
	}
	buckets.must(t, x, c)
}

// entries tells so many, with names that rise.
func entries(n int) []api.Entry {
	var l []api.Entry
	for i := range n {
		l = append(l, api.Entry{Name: fmt.Sprintf("n%03d", i), File: file(i%255+1, i+1), Size: i})
	}
	return l
}

// lasts tells one of each client up to the last one.
func lasts(n int) []api.Last {
	var l []api.Last
	for i := range n {
		l = append(l, api.Last{Client: i + 1, Op: 1, Instance: 1, File: aFile})
	}
	return l
}

func TestP502Ordinary(t *testing.T) {
	for _, x := range []api.Bucket{{}, {Entries: []api.Entry{}, Lasts: []api.Last{}}, {Upto: 1}, {Upto: 1 << 20}, full(), {Upto: 1, Entries: entries(2)}, {Upto: 1, Lasts: lasts(255)}} {
		if e := msg.Bucket(x, small); e != api.OK {
			t.Errorf("%+v: %v", x, e)
		}
		mustBucket(t, x, small)
	}
}

func TestP502Upto(t *testing.T) {
	for _, upto := range append([]int{2, 299, 300, 1<<20 - 1, 1 << 20, 1<<20 + 1}, edges...) {
		x := full()
		x.Upto = upto
		mustBucket(t, x, small)
		mustBucket(t, api.Bucket{Upto: upto}, small)
		mustBucket(t, api.Bucket{Upto: upto, Entries: entries(1)}, small)
		mustBucket(t, api.Bucket{Upto: upto, Lasts: lasts(1)}, small)
	}
}

func TestP502Room(t *testing.T) {
	for _, c := range []api.Config{least, small, great, {Servers: []int{1}, Points: 1, Buckets: 1, Block: 9, Room: 100}} {
		for _, n := range []int{0, 1, c.Room - 1, c.Room, c.Room + 1, 2 * c.Room, 257, 258, 1000} {
			x := api.Bucket{Upto: 1, Entries: entries(n)}
			if e := msg.Bucket(x, c); e != want(n <= c.Room, api.ErrArg) {
				t.Errorf("%d entries where there is room for %d: %v", n, c.Room, e)
			}
			mustBucket(t, x, c)
		}
	}
}

func TestP502NamesRise(t *testing.T) {
	c := small
	c.Room = 3
	row := []string{"", "\x01", "A", "Z", "a", "aa", "ab", "b", "\x7f", "\x80", "\xff", "\xff\xff", "é", long, long + "n", "a/", "a\x00"}
	for _, a := range row {
		for _, b := range row {
			for _, d := range []string{"a", "b", "\xff\xff\xff"} {
				x := api.Bucket{Upto: 1}
				for _, name := range []string{a, b, d} {
					x.Entries = append(x.Entries, api.Entry{Name: name, File: aFile})
				}
				mustBucket(t, x, c)
				x.Entries = x.Entries[:2]
				mustBucket(t, x, c)
			}
		}
	}
}

func TestP502Entries(t *testing.T) {
	for _, c := range []api.Config{small, great, least} {
		for at := range min(c.Room, 2) {
			for _, f := range files {
				for _, size := range sizes(c) {
					x := api.Bucket{Upto: 1, Entries: entries(min(c.Room, 2))}
					x.Entries[at].File, x.Entries[at].Size = f, size
					mustBucket(t, x, c)
				}
			}
		}
	}
}

func TestP502LastsRise(t *testing.T) {
	ids := append([]int{2, 3, 254, 255, 256}, edges...)
	for _, a := range ids {
		for _, b := range ids {
			for _, d := range ids {
				x := api.Bucket{Upto: 1, Lasts: lasts(3)}
				x.Lasts[0].Client, x.Lasts[1].Client, x.Lasts[2].Client = a, b, d
				mustBucket(t, x, small)
				x.Lasts = x.Lasts[:2]
				mustBucket(t, x, small)
				x.Lasts = x.Lasts[:1]
				mustBucket(t, x, small)
			}
		}
	}
	many := lasts(255)
	for _, client := range []int{255, 256} {
		mustBucket(t, api.Bucket{Upto: 1, Lasts: append(slices.Clone(many), api.Last{Client: client, Op: 1, Instance: 1, File: aFile})}, small)
	}
}

func TestP502LastsNumbers(t *testing.T) {
	for _, n := range append([]int{2, 6, 7, 8, 1 << 20, 1<<20 + 1, 1 << 40, 1<<40 + 1}, edges...) {
		for at := range 2 {
			x, y := api.Bucket{Upto: 7, Lasts: lasts(2)}, api.Bucket{Upto: 7, Lasts: lasts(2)}
			x.Lasts[at].Op, y.Lasts[at].Instance = n, n
			mustBucket(t, x, small)
			mustBucket(t, y, small)
		}
	}
}

// Each error there is, and what may stand beside it.
func TestP502Errors(t *testing.T) {
	errs := []api.Errno{math.MinInt, -1, math.MaxInt}
	for e := range api.Errno(260) {
		errs = append(errs, e)
	}
	for _, c := range []api.Config{small, great} {
		for _, e := range errs {
			for _, f := range files {
				for _, size := range sizes(c) {
					mustBucket(t, api.Bucket{Upto: 1, Lasts: []api.Last{{Client: 1, Op: 1, Instance: 1, Err: e, File: f, Size: size}}}, c)
				}
			}
		}
	}
	for e, beside := range map[api.Errno]int{api.OK: 1, api.ErrExists: 1, api.ErrStale: 1, api.ErrNotFound: 0, api.ErrRoom: 0} {
		with := api.Bucket{Upto: 1, Lasts: []api.Last{{Client: 1, Op: 1, Instance: 1, Err: e, File: aFile, Size: 2}}}
		without := api.Bucket{Upto: 1, Lasts: []api.Last{{Client: 1, Op: 1, Instance: 1, Err: e}}}
		if x, y := msg.Bucket(with, small), msg.Bucket(without, small); x != want(beside == 1, api.ErrArg) || y != want(beside == 0, api.ErrArg) {
			t.Errorf("%v: with a file %v, without one %v", e, x, y)
		}
	}
}

var stamps = []api.Stamp{{}, {N: 1, Client: 1}, {N: 5, Client: 3}, {N: 5, Client: 4}, {N: 5, Client: 5}, {N: 4, Client: 255}, {N: 6, Client: 1}, {N: 1 << 40, Client: 255}, {N: 1<<40 + 1, Client: 1}, {N: 1, Client: 256},
	{N: 1}, {N: 3}, {Client: 1}, {N: 1<<20 - 1}, {N: 1 << 20}, {N: 1<<20 + 1}, {N: 1<<20 + 2}, {N: -1}, {N: 1, Client: -1}, {N: -1, Client: 1}, {N: math.MaxInt, Client: 255}}

func someCommands() []api.Command {
	wrong := create
	wrong.Size = 1
	return append(commands(), api.Command{}, wrong, api.Command{Client: 4, Op: 9}, api.Command{Kind: api.CCreate}, api.Command{Name: "plum"})
}

func TestP503Instances(t *testing.T) {
	for _, c := range []api.Config{small, great} {
		for _, promised := range stamps {
			for _, accepted := range stamps {
				for _, x := range someCommands() {
					for _, decided := range []bool{false, true} {
						instances.must(t, api.Instance{Promised: promised, Accepted: accepted, Command: x, Decided: decided}, c)
					}
				}
			}
		}
	}
}

func TestP503Ordinary(t *testing.T) {
	for _, c := range []struct {
		x api.Instance
		e api.Errno
	}{
		{api.Instance{}, api.OK},
		{api.Instance{Promised: stamp(5, 4)}, api.OK},
		{api.Instance{Promised: stamp(5, 4), Accepted: stamp(5, 4), Command: create}, api.OK},
		{api.Instance{Promised: stamp(5, 4), Accepted: stamp(4, 9), Command: create}, api.OK},
		{api.Instance{Command: create, Decided: true}, api.OK},
		{api.Instance{Promised: stamp(5, 4), Accepted: stamp(5, 5), Command: create}, api.ErrArg},
		{api.Instance{Accepted: stamp(1, 1), Command: create}, api.ErrArg},
		{api.Instance{Promised: stamp(5, 4), Accepted: stamp(5, 4)}, api.ErrArg},
		{api.Instance{Promised: stamp(5, 4), Command: create}, api.ErrArg},
		{api.Instance{Command: create}, api.ErrArg},
		{api.Instance{Decided: true}, api.ErrArg},
		{api.Instance{Promised: stamp(5, 4), Command: create, Decided: true}, api.ErrArg},
		{api.Instance{Promised: stamp(5, 4), Accepted: stamp(5, 4), Command: create, Decided: true}, api.ErrArg},
	} {
		if _, e := msg.PackInstance(c.x, small); e != c.e {
			t.Errorf("%+v: %v, want %v", c.x, e, c.e)
		}
	}
}

func TestP503Blocks(t *testing.T) {
	for _, c := range []api.Config{least, small, {Servers: []int{1}, Points: 1, Buckets: 1, Block: 127, Room: 1}, {Servers: []int{1}, Points: 1, Buckets: 1, Block: 128, Room: 1}, great} {
		for _, n := range []int{0, 1, c.Block - 1, c.Block, c.Block + 1, 2 * c.Block, 4097} {
			for _, s := range stamps {
				blocks.must(t, api.Block{Stamp: s, Data: make([]byte, n)}, c)
				for _, at := range []int{0, n / 2, n - 1} {
					if n > 0 {
						data := make([]byte, n)
						data[at] = 128
						blocks.must(t, api.Block{Stamp: s, Data: data}, c)
					}
				}
			}
		}
	}
	if _, e := msg.PackBlock(api.Block{}, small); e != api.ErrArg {
		t.Errorf("a block of no bytes: %v", e)
	}
}
