package server_test

import (
	"slices"
	"testing"

	"cairn/api"
	"cairn/disk"
	"cairn/msg"
	"cairn/server"
)

func mustRefuseNew(t *testing.T, c api.Config, id int, d *disk.Disk, want api.Errno) {
	t.Helper()
	mustWrite(t, d, false, func() {
		if s, err := server.New(c, id, d); s != nil || err != want {
			t.Fatalf("New(%+v, %d, ..): %v, %v, not %v", c, id, s, err, want)
		}
	})
}

// wrongConfigs are not right, each by one thing, at the edges of W2.
func wrongConfigs() []api.Config {
	var list []api.Config
	wrong := func(change func(c *api.Config)) {
		c := three()
		change(&c)
		list = append(list, c)
	}
	for _, servers := range [][]int{nil, {1, 2}, {1, 2, 2}, {0, 2, 3}, {2, 3, 256}, {-1, 2, 3}} {
		wrong(func(c *api.Config) { c.Servers = servers })
	}
	wrong(func(c *api.Config) {
		for id := 4; id <= 65; id++ {
			c.Servers = append(c.Servers, id)
		}
	})
	for _, n := range []int{-1, 2, 4} {
		wrong(func(c *api.Config) { c.F = n })
	}
	for _, n := range []int{-1, 0, 65} {
		wrong(func(c *api.Config) { c.Points = n })
	}
	for _, n := range []int{-1, 0, 257} {
		wrong(func(c *api.Config) { c.Buckets = n })
		wrong(func(c *api.Config) { c.Room = n })
	}
	for _, n := range []int{-1, 0, 4097} {
		wrong(func(c *api.Config) { c.Block = n })
	}
	return append(list, api.Config{})
}

func TestP1301Config(t *testing.T) {
	for _, c := range wrongConfigs() {
		mustRefuseNew(t, c, me, newDisk(t, 40), api.ErrConfig)
	}
}

func TestP1301Addr(t *testing.T) {
	for _, id := range []int{-1 << 63, -2, -1, 0, 4, 255, 256, 1<<63 - 1} {
		mustRefuseNew(t, three(), id, newDisk(t, 40), api.ErrAddr)
	}
	for _, id := range []int{4, 6, 199, 254} {
		mustRefuseNew(t, seven(), id, newDisk(t, 40), api.ErrAddr)
	}
	for _, id := range seven().Servers {
		if s, err := server.New(seven(), id, newDisk(t, 1)); s == nil || err != api.OK {
			t.Errorf("server %d: %v", id, err)
		}
	}
}

func fallen(t *testing.T, d *disk.Disk) *disk.Disk {
	t.Helper()
	d.Arm(0, 0)
	if err := d.Write(0, make([]byte, api.Sector)); err != api.ErrFallen {
		t.Fatal(err)
	}
	return d
}

func TestP1301Fallen(t *testing.T) {
	d := fallen(t, newDisk(t, 40))
	mustRefuseNew(t, three(), me, d, api.ErrFallen)
	d.Start()
	started(t, three(), d)
}

// The first error in the promise's order is answered.
func TestP1301Order(t *testing.T) {
	bad := func() *disk.Disk {
		d := newDisk(t, 40)
		lay(t, laying(t, three(), d), block(0), []byte("junk"), api.OK)
		return d
	}
	wrong := three()
	wrong.F = 4
	mustRefuseNew(t, wrong, 77, fallen(t, bad()), api.ErrConfig)
	mustRefuseNew(t, wrong, 77, bad(), api.ErrConfig)
	mustRefuseNew(t, three(), 77, fallen(t, bad()), api.ErrAddr)
	mustRefuseNew(t, three(), 77, bad(), api.ErrAddr)
	mustRefuseNew(t, three(), me, fallen(t, bad()), api.ErrFallen)
	mustRefuseNew(t, three(), me, bad(), api.ErrForm)
}

// A record under a key that is none of the server's, though it may be a record.
func TestP1301ForeignKeys(t *testing.T) {
	c := seven()
	theirs, theirDir, theirAt := of(t, c, false)
	ours, ourDir, ourAt := of(t, c, true)
	type record struct {
		k    api.Key
		mine bool
	}
	for _, r := range []record{
		{ours, true}, {ourDir, true}, {ourAt, true}, {theirs, false}, {theirDir, false}, {theirAt, false},
		{api.Key{Kind: api.KInstance, A: ourAt.A, B: last}, true}, {api.Key{Kind: api.KInstance, A: theirAt.A, B: last}, false},
		{api.Key{Kind: api.KBucket, A: c.Buckets}, false}, {api.Key{Kind: api.KInstance, A: c.Buckets, B: 1}, false}, {api.Key{Kind: api.KBucket, A: 255}, false},
	} {
		for _, beside := range []bool{false, true} {
			d := newDisk(t, 120)
			s := laying(t, c, d)
			if beside {
				layBlock(t, c, s, ours, api.Block{Stamp: stamp(1, 1), Data: []byte("abc")})
				layInstance(t, c, s, ourAt, decided(1))
			}
			layKind(t, c, s.Put, r.k)
			if r.mine {
				started(t, c, d)
			} else {
				mustRefuseNew(t, c, me, d, api.ErrForm)
			}
		}
	}
}

// layKind lays down some record of the key's kind.
func layKind(t *testing.T, c api.Config, put func(api.Key, []byte) api.Errno, k api.Key) {
	t.Helper()
	if err := put(k, some(t, c, k.Kind)); err != api.OK {
		t.Fatalf("%v: %v", k, err)
	}
}

// some is a record of a kind.
func some(t *testing.T, c api.Config, kind int) []byte {
	t.Helper()
	var b []byte
	var err api.Errno
	switch kind {
	case api.KBlock:
		b, err = msg.PackBlock(api.Block{Stamp: stamp(1, 1), Data: []byte("abc")}, c)
	case api.KBucket:
		b, err = msg.PackBucket(brought(3), c)
	default:
		b, err = msg.PackInstance(decided(7), c)
	}
	if err != api.OK {
		t.Fatal(err)
	}
	return b
}

// A record that is refused for its key's kind: junk, one of another kind, one that is cut, one byte more, of another configuration.
func TestP1301RefusedRecords(t *testing.T) {
	c := three()
	keys := []api.Key{block(0), dir, at(1)}
	for _, k := range keys {
		good := some(t, c, k.Kind)
		bad := [][]byte{nil, {0}, []byte("junk"), good[:len(good)-1], append(slices.Clone(good), 0), slices.Concat(good[:5], []byte{good[5] ^ 1}, good[6:])}
		for _, l := range keys {
			if l.Kind != k.Kind {
				bad = append(bad, some(t, c, l.Kind)[:min(len(some(t, c, l.Kind)), server.Most(c)[k.Kind])])
			}
		}
		for _, b := range bad {
			d := newDisk(t, 80)
			s := laying(t, c, d)
			layBlock(t, c, s, block(5), api.Block{Stamp: stamp(1, 1), Data: []byte("abc")})
			lay(t, s, k, b, api.OK)
			mustRefuseNew(t, c, me, d, api.ErrForm)
			lay(t, s, k, good, api.OK)
			started(t, c, d)
		}
	}
	wide := c
	wide.Block = 4
	b, err := msg.PackBlock(api.Block{Stamp: stamp(1, 1), Data: []byte("abcd")}, wide)
	if err != api.OK {
		t.Fatal(err)
	}
	d := newDisk(t, 80)
	// one byte too long for most: it is stripped of what makes it long, and is none at all then
	lay(t, laying(t, c, d), block(0), b[:min(len(b), server.Most(c)[api.KBlock])], api.OK)
	mustRefuseNew(t, c, me, d, api.ErrForm)
}

// What lies there is held.
func TestP1301HoldsWhatLiesThere(t *testing.T) {
	c := three()
	d := newDisk(t, 120)
	l := laying(t, c, d)
	b := api.Block{Stamp: stamp(5, 9), Data: []byte("abc")}
	promised := api.Instance{Promised: stamp(4, 2)}
	accepted := api.Instance{Promised: stamp(6, 2), Accepted: stamp(4, 2), Command: other(3)}
	layBlock(t, c, l, block(0), b)
	layBucket(t, c, l, dir, brought(2))
	layInstance(t, c, l, at(3), promised)
	layInstance(t, c, l, at(4), accepted)
	layInstance(t, c, l, at(5), decided(5))
	layInstance(t, c, l, at(last), decided(last))
	layInstance(t, c, l, api.Key{Kind: api.KInstance, A: 0, B: 1}, decided(1))
	s := started(t, c, d)
	if got := s.Block(block(0)); !same(got, b) {
		t.Errorf("%+v", got)
	}
	if got := s.Bucket(number); !same(got, brought(2)) {
		t.Errorf("%+v", got)
	}
	for n, want := range map[int]api.Instance{1: clear, 2: clear, 3: promised, 4: accepted, 5: decided(5), 6: clear, last: decided(last)} {
		if got := s.Instance(at(n)); got != want {
			t.Errorf("instance %d: %+v", n, got)
		}
	}
	want := []api.Key{block(0), dir, {Kind: api.KInstance, A: 0, B: 1}, at(3), at(4), at(5), at(last)}
	if got := slices.Collect(s.Keys()); !slices.Equal(got, want) {
		t.Errorf("%v, not %v", got, want)
	}
	must(t, s, query(block(0)), api.Msg{Kind: api.MValue, Stamp: b.Stamp, Block: b.Data})
	must(t, s, prepare(at(3), stamp(3, 3)), api.Msg{Kind: api.MNack, Stamp: stamp(4, 2)})
	must(t, s, prepare(at(4), stamp(6, 2)), api.Msg{Kind: api.MPromise, Stamp: stamp(6, 2), Held: stamp(4, 2), Command: other(3)})
	must(t, s, prepare(at(5), stamp(9, 9)), api.Msg{Kind: api.MKnown, Command: command(5)})
	must(t, s, prepare(at(2), stamp(9, 9)), api.Msg{Kind: api.MBucket, Bucket: brought(2)})
	mustLast(t, s, c, d)
}

// Records of things that are none may lie there: nothing is held, and they need no room any more.
func TestP1301RecordsOfNone(t *testing.T) {
	c := three()
	d := newDisk(t, 36)
	l := laying(t, c, d)
	layBlock(t, c, l, block(0), api.Block{Data: []byte{0, 0, 0}})
	layBucket(t, c, l, dir, api.Bucket{})
	layInstance(t, c, l, at(1), clear)
	empty, _ := fresh(t, 36)
	s := started(t, c, d)
	if got, want := view(s, c), view(empty, c); got != want {
		t.Fatalf("it holds\n%s\nnot\n%s", got, want)
	}
	must(t, s, query(block(0)), blank())
	must(t, s, ask(block(0), 0), api.Msg{Kind: api.MHave})
	must(t, s, ask(dir, 1), api.Msg{Kind: api.MHave, Stamp: stamp(1, 0)})
	mustMend(t, s, c, 3, dir, 1)
	mustNothing(t, s, put(block(1), stamp(1, 1), "abc"))
	must(t, s, put(block(0), stamp(1, 1), "abc"), ack())
	mustNothing(t, s, learned(at(1), command(1)))
	if s.Instance(at(1)) != decided(1) {
		t.Fatal("there was room")
	}
	mustTrim(t, s, 1, 1)
	mustLast(t, s, c, d)
}

func TestP1302Most(t *testing.T) {
	for _, n := range [][2]int{{1, 1}, {3, 2}, {4096, 256}, {448, 16}, {512, 255}} {
		c := three()
		c.Block, c.Room = n[0], n[1]
		if got, want := server.Most(c), [4]int{0, n[0] + 22, 270*n[1] + 6394, 316}; got != want {
			t.Errorf("Most of %+v: %v, not %v", c, got, want)
		}
	}
	if got := server.Most(seven()); got != [4]int{0, 25, 6934, 316} {
		t.Errorf("%v", got)
	}
	for _, c := range wrongConfigs() {
		if got := server.Most(c); got != [4]int{} {
			t.Errorf("Most of %+v: %v", c, got)
		}
	}
}

// Servers in whatever order are one configuration.
func TestP1301OrderOfServers(t *testing.T) {
	d := newDisk(t, 40)
	s := started(t, three(), d)
	mustDo(t, s, three(), put(block(0), stamp(1, 1), "abc"))
	c := three()
	c.Servers = []int{3, 1, 2}
	if got, want := view(started(t, c, d), c), view(s, c); got != want {
		t.Errorf("%s\nnot\n%s", got, want)
	}
}
