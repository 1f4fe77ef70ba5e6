package world_test

import (
	"math"
	"slices"
	"testing"

	"cairn/api"
	"cairn/world"
)

// mustBeNew: all servers are up over disks of zeros, and nothing has happened.
func mustBeNew(t *testing.T, w *world.World, c api.Config, clients []int, sectors int) {
	t.Helper()
	for _, id := range c.Servers {
		image, err := w.Image(id)
		if err != api.OK || len(image) != sectors*512 || slices.Max(image) != 0 || !w.Up(id) {
			t.Fatalf("server %d: %d bytes, %v, up %v", id, len(image), err, w.Up(id))
		}
	}
	for _, id := range clients {
		if w.Pending(id) || w.Fair(id, 1) != 0 {
			t.Fatalf("something is pending at client %d", id)
		}
	}
	if len(w.Under()) > 0 || len(w.History()) > 0 {
		t.Fatalf("%d packets, %d lines", len(w.Under()), len(w.History()))
	}
}

func TestP1701New(t *testing.T) {
	t.Parallel()
	every := []int{}
	for id := 1; id <= api.MaxId; id++ {
		every = append(every, id)
	}
	for _, x := range []hall{
		{small(), []int{5, 6}, 400}, {small(), nil, 1}, {small(), []int{}, 2}, {small(), []int{10, 20, 30}, 7}, {small(), []int{1, 255}, 64},
		{wide(), every, 3}, {least(), []int{255}, 1}, {least(), nil, api.MaxSectors}, {greatest(), []int{1}, 1}, {greatest(), every, 20},
	} {
		mustBeNew(t, x.made(t), x.c, x.clients, x.sectors)
	}
}

// One of each, at the greatest number of sectors: an operation goes through.
func TestP1701MaxSectors(t *testing.T) {
	t.Parallel()
	w := made(t, small(), api.MaxSectors, 5)
	mustBeNew(t, w, small(), []int{5}, api.MaxSectors)
	if r := run(t, w, 5, create("plum")); r.Err != api.OK || r.Entry.Name != "plum" {
		t.Fatalf("%+v", r)
	}
	do(t, w, again(20)...)
	if x := w.Instance(20, at(3, 1)); x.Accepted.N != 1 {
		t.Fatalf("%+v", x)
	}
}

// With one sector there is room for nothing: what writes nothing is answered all the same.
func TestP1701OneSector(t *testing.T) {
	t.Parallel()
	w := made(t, small(), 1, 5, 6)
	do(t, w, invoke(5, create("plum")))
	if n := w.Fair(5, 5); n != -1 || !w.Pending(5) || len(w.Under()) != 0 {
		t.Fatalf("Fair: %d, %d under way", n, len(w.Under()))
	}
	if r := run(t, w, 6, read(fileOf(5, 1), 0)); !slices.Equal(r.Data, make([]byte, 8)) || r.Stamp.N != 0 {
		t.Fatalf("%+v", r)
	}
	for _, id := range small().Servers {
		image, _ := w.Image(id)
		if slices.Max(image) != 0 || !w.Up(id) {
			t.Fatalf("server %d has written", id)
		}
	}
}

func TestP1701Refused(t *testing.T) {
	t.Parallel()
	wrong := map[string]func(c *api.Config){
		"no servers":        func(c *api.Config) { c.Servers = nil },
		"too few servers":   func(c *api.Config) { c.Servers = c.Servers[:2] },
		"two of one id":     func(c *api.Config) { c.Servers = []int{1, 1, 2} },
		"a server 0":        func(c *api.Config) { c.Servers = []int{0, 1, 2} },
		"a server 256":      func(c *api.Config) { c.Servers = []int{1, 256, 2} },
		"F below 0":         func(c *api.Config) { c.F = -1 },
		"F 4":               func(c *api.Config) { c.F, c.Servers = 4, []int{1, 2, 3, 4, 5, 6, 7, 8, 9} },
		"no points":         func(c *api.Config) { c.Points = 0 },
		"65 points":         func(c *api.Config) { c.Points = 65 },
		"no buckets":        func(c *api.Config) { c.Buckets = 0 },
		"257 buckets":       func(c *api.Config) { c.Buckets = 257 },
		"blocks of none":    func(c *api.Config) { c.Block = 0 },
		"blocks of 4097":    func(c *api.Config) { c.Block = 4097 },
		"no room":           func(c *api.Config) { c.Room = 0 },
		"room for 257":      func(c *api.Config) { c.Room = 257 },
		"65 servers":        func(c *api.Config) { c.Servers = append(greatest().Servers, 1) },
		"the least numbers": func(c *api.Config) { *c = api.Config{F: math.MinInt} },
	}
	for name, change := range wrong {
		c := small()
		change(&c)
		for _, clients := range [][]int{nil, {5, 6}, {5, 5}, {0}} {
			for _, sectors := range []int{1, 0, -1, api.MaxSectors + 1} {
				if w, err := world.New(c, clients, sectors); w != nil || err != api.ErrConfig {
					t.Errorf("%s, clients %v, %d sectors: %v", name, clients, sectors, err)
				}
			}
		}
	}
	noSectors := []int{0, -1, api.MaxSectors + 1, 1 << 40, math.MinInt, math.MaxInt}
	for _, clients := range [][]int{{5, 5}, {0}, {-1}, {256}, {5, 6, 5}, {1, 2, 256}, {math.MinInt}, {math.MaxInt, 1}, make([]int, 1000)} {
		for _, sectors := range append([]int{1, 400, api.MaxSectors}, noSectors...) {
			if w, err := world.New(small(), clients, sectors); w != nil || err != api.ErrAddr {
				t.Errorf("clients %v, %d sectors: %v", clients, sectors, err)
			}
		}
	}
	for _, clients := range [][]int{nil, {5}, {1, 255}} {
		for _, sectors := range noSectors {
			if w, err := world.New(small(), clients, sectors); w != nil || err != api.ErrSectors {
				t.Errorf("clients %v, %d sectors: %v", clients, sectors, err)
			}
		}
	}
}

// The order in which servers and clients are named changes nothing.
func TestP1701Order(t *testing.T) {
	t.Parallel()
	h := hall{small(), []int{5, 6, 30}, 80}
	turned := hall{small(), []int{30, 5, 6}, 80}
	turned.c.Servers = []int{10, 20, 30}
	for seed := range int64(10) {
		if fault := held(h.lot(t, seed), h.made(t), turned.made(t), 150, map[string]int{}); fault != "" {
			t.Fatalf("seed %d: %s", seed, fault)
		}
	}
}

// A world without clients: servers fall, are started, are told to trim and to mend; nobody can invoke.
func TestP1701NoClients(t *testing.T) {
	t.Parallel()
	h := hall{small(), nil, 60}
	a, b := h.made(t), newPlain(h, "")
	for i, e := range []api.Event{
		invoke(5, create("plum")), tick(5), stop(5), mend(20, 30, bucketKey(3)), deliver(node(20), 1), deliver(node(30), 1), trim(20, 3, 1), tear(20, 0, 1), fall(20, 0), junk(20, 1), start(20), quota(20, 0),
		mend(10, 20, block(fileOf(5, 1), 0)), double(node(10), 1), lose(node(10), 1), deliver(node(10), 1), deliver(node(10), 1), deliver(user(5), 1),
	} {
		if x, y := a.Do(e), b.Do(e); x != y {
			t.Fatalf("%d: %v, not %v", i, x, y)
		}
		h.mustBeAlike(t, a, b)
	}
	mustUnder(t, a, "s20.2")
	if a.Fair(5, 1) != -1 || len(a.History()) > 0 {
		t.Fatal("there is somebody")
	}
}
