package client_test

import (
	"fmt"
	"math"
	"math/rand"
	"slices"
	"testing"

	"cairn/api"
	"cairn/client"
)

// rightOnes are configurations that may be, at their edges too.
func rightOnes() []api.Config {
	all := []api.Config{four(), seven(), least(), greatest()}
	for _, change := range []func(*api.Config){
		func(c *api.Config) { c.Servers = []int{255, 1} }, func(c *api.Config) { c.Points = 64 }, func(c *api.Config) { c.Buckets = 256 },
		func(c *api.Config) { c.Block = 4096 }, func(c *api.Config) { c.Room = 256 }, func(c *api.Config) { c.F, c.Servers = 3, []int{7, 6, 5, 4, 3, 2, 1} },
	} {
		c := least()
		change(&c)
		all = append(all, c)
	}
	return all
}

// wrongOnes are configurations that may not be.
func wrongOnes() []api.Config {
	var all []api.Config
	for _, change := range []func(*api.Config){
		func(c *api.Config) { *c = api.Config{} },
		func(c *api.Config) { c.Servers = nil }, func(c *api.Config) { c.Servers = []int{} }, func(c *api.Config) { c.Servers = []int{10, 20} },
		func(c *api.Config) { c.Servers = []int{10, 20, 10} }, func(c *api.Config) { c.Servers = []int{0, 10, 20} }, func(c *api.Config) { c.Servers = []int{256, 10, 20} },
		func(c *api.Config) { c.Servers = []int{-1, 10, 20} }, func(c *api.Config) { c.Servers = append(greatest().Servers, 2) },
		func(c *api.Config) { c.F = -1 }, func(c *api.Config) { c.F = 2 }, func(c *api.Config) { *c = greatest(); c.F = 4 }, func(c *api.Config) { c.F = math.MaxInt }, func(c *api.Config) { c.F = math.MinInt },
		func(c *api.Config) { c.Points = 0 }, func(c *api.Config) { c.Points = 65 }, func(c *api.Config) { c.Points = -1 },
		func(c *api.Config) { c.Buckets = 0 }, func(c *api.Config) { c.Buckets = 257 }, func(c *api.Config) { c.Buckets = -1 },
		func(c *api.Config) { c.Block = 0 }, func(c *api.Config) { c.Block = 4097 }, func(c *api.Config) { c.Block = -1 },
		func(c *api.Config) { c.Room = 0 }, func(c *api.Config) { c.Room = 257 }, func(c *api.Config) { c.Room = -1 },
	} {
		c := four()
		change(&c)
		all = append(all, c)
	}
	return all
}

func mustNotBe(t *testing.T, c api.Config, id int, want api.Errno) {
	t.Helper()
	if m, err := client.New(c, id); m != nil || err != want {
		t.Errorf("New(%+v, %d): %v, %v; not %v", c, id, m, err, want)
	}
}

func TestP1401Wrong(t *testing.T) {
	for _, c := range wrongOnes() {
		for _, id := range []int{math.MinInt, -1, 0, 1, 5, 255, 256, math.MaxInt} {
			mustNotBe(t, c, id, api.ErrConfig)
		}
	}
	for _, c := range rightOnes() {
		for _, id := range []int{math.MinInt, -255, -1, 0, 256, 257, 1 << 40, math.MaxInt} {
			mustNotBe(t, c, id, api.ErrArg)
		}
	}
}

func TestP1401Right(t *testing.T) {
	for _, c := range rightOnes() {
		for _, id := range []int{1, 2, me, 254, api.MaxId} {
			m := made(t, c, id)
			for range 2 {
				mustBeNew(t, m, c, id)
			}
		}
	}
}

// mustBeNew looks that a client was invoked with nothing.
func mustBeNew(t *testing.T, m machine, c api.Config, id int) {
	t.Helper()
	want := c
	want.Servers = slices.Clone(c.Servers)
	slices.Sort(want.Servers)
	if got := m.Config(); fmt.Sprint(got) != fmt.Sprint(want) {
		t.Errorf("Config: %+v, not %+v", got, want)
	}
	r, done := m.Done()
	if m.Id() != id || m.Number() != 0 || m.Pending() || m.Fallen() || done || !sameResult(r, api.Result{}) {
		t.Errorf("a client that was invoked with nothing: %s", told(m))
	}
	mustTick(t, m)
	mustNews(t, m)
}

// The order in which servers stand changes nothing.
func TestP1401OrderOfServers(t *testing.T) {
	r := rand.New(rand.NewSource(1))
	for _, c := range []api.Config{four(), seven(), greatest()} {
		for range 5 {
			d := c
			d.Servers = slices.Clone(c.Servers)
			r.Shuffle(len(d.Servers), func(i, j int) { d.Servers[i], d.Servers[j] = d.Servers[j], d.Servers[i] })
			for _, o := range ofEachKind(c) {
				a, b := made(t, c, me), made(t, d, me)
				first, _ := a.Invoke(o)
				second, err := b.Invoke(o)
				if err != api.OK || !samePackets(first, second) || told(a) != told(b) {
					t.Fatalf("%+v: %v, %v, not %v", o, err, second, first)
				}
			}
		}
	}
}

// Two clients have nothing in common.
func TestP7TwoClients(t *testing.T) {
	a, b := fresh(t), fresh(t)
	decide(t, a, create("plum"), plum)
	mustBeNew(t, b, four(), me)
	decide(t, b, create("plum"), plum)
	a.Stop()
	mustNews(t, a, item{at(3, 1), plumCommand})
	mustNews(t, b, item{at(3, 1), plumCommand})
	decide(t, b, lookup("plum"), ask{op: 2, round: 3, ballot: 2, key: at(3, 2)})
}

// A client that New did not make has no configuration: it asks nobody, and falls at nothing.
func TestP1NotMade(t *testing.T) {
	for _, o := range append(ofEachKind(four()), api.Op{}, list(0)) {
		var c client.Client
		if l, err := c.Invoke(o); len(l) > 0 || err == api.OK {
			t.Errorf("%+v: %v, %v", o, l, err)
		}
		if len(c.Step(nil)) > 0 || len(c.Step(encoded(t, four(), plum.promise(10)))) > 0 || len(c.Tick()) > 0 || c.Pending() || c.Number() != 0 || c.Id() != 0 || len(c.Config().Servers) > 0 {
			t.Errorf("%s", told(&c))
		}
		mustNews(t, &c)
		c.Stop()
		if _, err := c.Invoke(o); err != api.ErrFallen || !c.Fallen() {
			t.Errorf("%v", err)
		}
	}
}
