package file_test

import (
	"fmt"
	"math"
	"testing"

	"cairn/api"
	"cairn/file"
)

func TestP1507NewModel(t *testing.T) {
	for _, c := range append(halls(), least(), greatest()) {
		m := model(t, c)
		for b := range c.Buckets {
			if r := m.Do(me, 1, list(b)); !sameResult(r, api.Result{}) {
				t.Errorf("a bucket at first: %+v", r)
			}
		}
		for _, index := range []int{0, 1, 1<<20 - 1} {
			r := m.Do(me, 1, read(fileOf(255, 1<<40), index))
			if len(r.Data) != c.Block || r.Err != api.OK || string(r.Data) != string(make([]byte, c.Block)) {
				t.Errorf("a block at first: %+v", r)
			}
		}
		if r := m.Do(me, 1, lookup("oar")); !sameResult(r, api.Result{Err: api.ErrNotFound}) {
			t.Errorf("%+v", r)
		}
	}
	for i, spoil := range []func(*api.Config){
		func(c *api.Config) { c.Servers = nil }, func(c *api.Config) { c.Servers = []int{1, 2} }, func(c *api.Config) { c.Servers = []int{1, 2, 2} }, func(c *api.Config) { c.Servers = []int{0, 1, 2} },
		func(c *api.Config) { c.Servers = []int{1, 2, 256} }, func(c *api.Config) { c.Servers = make([]int, 65) }, func(c *api.Config) { c.F = -1 }, func(c *api.Config) { c.F = 2 }, func(c *api.Config) { c.F = 4 },
		func(c *api.Config) { c.F = math.MaxInt }, func(c *api.Config) { c.F = math.MinInt }, func(c *api.Config) { c.Points = 0 }, func(c *api.Config) { c.Points = 65 }, func(c *api.Config) { c.Buckets = 0 },
		func(c *api.Config) { c.Buckets = 257 }, func(c *api.Config) { c.Block = 0 }, func(c *api.Config) { c.Block = 4097 }, func(c *api.Config) { c.Block = -1 }, func(c *api.Config) { c.Room = 0 }, func(c *api.Config) { c.Room = 257 },
		func(c *api.Config) { *c = api.Config{} },
	} {
		c := small()
		spoil(&c)
		if m, err := file.NewModel(c); m != nil || err != api.ErrConfig {
			t.Errorf("%d: %v, %v", i, m, err)
		}
	}
}

// Two Models are two: P7.
func TestP1507TwoModels(t *testing.T) {
	a, b := modelWithOar(t), model(t, small())
	if r := b.Do(me, 1, lookup("oar")); r.Err != api.ErrNotFound {
		t.Errorf("%+v", r)
	}
	if r := b.Do(me, 1, read(oar, 0)); string(r.Data) != "\x00\x00\x00\x00" {
		t.Errorf("%+v", r)
	}
	b.Do(9, 1, create("oar"))
	if r := a.Do(me, 10, lookup("oar")); r.Entry != entry("oar", oar, 6) {
		t.Errorf("%+v", r)
	}
}

// The order in which servers stand, and which they are, changes nothing: a name's bucket is the ring's.
func TestP1508Buckets(t *testing.T) {
	for _, c := range append(halls(), greatest()) {
		m := model(t, c)
		for i := range 40 {
			name := fmt.Sprint("n", i)
			r := m.Do(me, i+1, create(name))
			b := ringOf(c).Bucket(name)
			found := 0
			for number := range c.Buckets {
				for _, e := range m.Do(1, 1, list(number)).List {
					if e.Name == name {
						found++
						if number != b {
							t.Fatalf("%s stands in %d, not in %d", name, number, b)
						}
					}
				}
			}
			if r.Err == api.OK && found != 1 || r.Err == api.ErrRoom && (found != 0 || len(m.Do(1, 1, list(b)).List) != c.Room) {
				t.Fatalf("%s: %+v, found %d times", name, r, found)
			}
		}
	}
}

// The first part takes the number, the next ones the next: the file of a copy is by its second.
func TestP1508PartNumbers(t *testing.T) {
	for _, x := range []struct{ client, number int }{{1, 1}, {me, 10}, {255, 1 << 39}, {255, api.MaxNum - 7}} {
		m := modelWithOar(t)
		if r := m.Do(x.client, x.number, copyTo("oar", "peg")); r.Entry != entry("peg", fileOf(x.client, x.number+1), 6) {
			t.Errorf("%+v: %+v", x, r)
		}
		if r := m.Do(x.client, x.number, create("fig")); r.Entry != entry("fig", fileOf(x.client, x.number), 0) {
			t.Errorf("%+v: %+v", x, r)
		}
	}
}

// Blocks are by file and index, whoever names them: of files that no name has, and of several names.
func TestP1508BlocksByFile(t *testing.T) {
	m := modelWithOar(t)
	f := fileOf(200, 5)
	m.Do(1, 1, write(f, 2, 1, 2, 3, 4))
	m.Do(2, 1, create("peg"))
	m.Do(3, 1, replace("peg", fileOf(2, 1), f, 12))
	if r := m.Do(4, 1, readAt("peg", 7, 3)); string(r.Data) != "\x00\x01\x02" {
		t.Errorf("%+v", r)
	}
	m.Do(3, 2, replace("peg", f, oar, 4))
	m.Do(5, 1, writeAt("peg", 0, 9))
	if r := m.Do(6, 1, readAt("oar", 0, 6)); string(r.Data) != "\x09\x02\x03\x04\x05\x06" {
		t.Errorf("%+v", r)
	}
	m.Do(7, 1, remove("oar"))
	m.Do(7, 2, remove("peg"))
	if r := m.Do(8, 1, read(oar, 1)); string(r.Data) != "\x05\x06\x00\x00" {
		t.Errorf("%+v", r)
	}
	for _, other := range []api.Op{read(oar, 2), read(fileOf(me, 2), 1), read(fileOf(1, 7), 1), read(fileOf(8, 1), 1), read(f, 1)} {
		if r := m.Do(8, 1, other); string(r.Data) != "\x00\x00\x00\x00" {
			t.Errorf("%+v: %+v", other, r)
		}
	}
}

// Clients and numbers that there are none of: each call ends, with an error alone, and nothing has changed.
func TestP1508NoClientNoNumber(t *testing.T) {
	m := modelWithOar(t)
	wild := []int{math.MinInt, math.MinInt + 1, -1 << 40, -1, 0, 1, 255, 256, 1 << 40, 1<<40 + 1, math.MaxInt - 1, math.MaxInt}
	for _, client := range wild {
		for _, number := range wild {
			for _, o := range append(append(atomics(small()), composites()...), api.Op{}, api.Op{Kind: -1}, readAt("", -1, -1)) {
				if client >= 1 && client <= 255 && number >= 1 && number <= 1<<40 {
					continue
				}
				data := append([]byte{}, o.Data...)
				if r := m.Do(client, number, o); r.Err == api.OK || !sameResult(r, api.Result{Err: r.Err}) {
					t.Fatalf("%d, %d, %+v: %+v", client, number, o, r)
				}
				if string(data) != string(o.Data) {
					t.Fatalf("%+v has changed", o)
				}
			}
		}
	}
	if r := m.Do(1, 1, readAt("oar", 0, 9)); !sameResult(r, withData(entryOf(6), 1, 2, 3, 4, 5, 6)) {
		t.Errorf("%+v", r)
	}
	if r := m.Do(1, 1, read(fileOf(7, 12), 3)); string(r.Data) != "\x00\x00\x00\x00" {
		t.Errorf("%+v", r)
	}
}

// What is refused at once changes nothing.
func TestP1508Refused(t *testing.T) {
	m := modelWithOar(t)
	for _, x := range []struct {
		o    api.Op
		want api.Errno
	}{
		{api.Op{}, api.ErrOp}, {api.Op{Kind: 14}, api.ErrOp}, {create("a/b"), api.ErrName}, {list(2), api.ErrBucket}, {list(-1), api.ErrBucket}, {setSize("oar", fileOf(0, 1), 1), api.ErrArg},
		{setSize("oar", oar, 1<<22+1), api.ErrSize}, {grow("oar", oar, -1), api.ErrSize}, {replace("oar", oar, fileOf(1, 0), 1), api.ErrArg}, {read(oar, 1<<20), api.ErrIndex}, {write(oar, 0, 1, 2, 3), api.ErrBlock},
		{write(oar, 0, 1, 2, 3, 4, 5), api.ErrBlock}, {write(oar, -1, 1, 2, 3, 4), api.ErrIndex}, {readAt("oar", 0, 1<<22+1), api.ErrSize}, {writeAt("oar", 1<<22, 1), api.ErrSize}, {truncate("oar", -1), api.ErrSize}, {copyTo("oar", ""), api.ErrName},
	} {
		if r := m.Do(me, 10, x.o); !sameResult(r, api.Result{Err: x.want}) {
			t.Errorf("%+v: %+v, not %v", x.o, r, x.want)
		}
		if r := m.Do(1, 1, readAt("oar", 0, 9)); !sameResult(r, withData(entryOf(6), 1, 2, 3, 4, 5, 6)) {
			t.Fatalf("behind %+v: %+v", x.o, r)
		}
	}
}
