package world

import (
	"fmt"
	"runtime"
	"slices"
	"strings"
	"testing"

	"cairn/api"
	"cairn/client"
	"cairn/disk"
	"cairn/file"
	"cairn/server"
	"cairn/stable"
)

var config = api.Config{Servers: []int{30, 10, 20}, F: 1, Points: 2, Buckets: 4, Block: 8, Room: 2}

func fresh(t *testing.T) *World {
	t.Helper()
	w, err := New(config, []int{5, 6}, 60)
	if err != api.OK {
		t.Fatal(err)
	}
	return w
}

// routine names the goroutine that asks.
func routine() string {
	text := make([]byte, 100)
	return strings.Fields(string(text[:runtime.Stack(text, false)]))[1]
}

// watched is a machine that notes in which goroutine it works.
type watched struct {
	machine
	in []string
}

func (m *watched) do(t task) answer {
	m.in = append(m.in, routine())
	return m.machine.do(t)
}

// Ways: each machine works in one goroutine, which is its own and not the caller's; one task is done at a time, and what it answers comes back.
func TestWaysCrew(t *testing.T) {
	w := fresh(t)
	all := []*watched{{machine: w.servers[10]}, {machine: w.servers[20]}, {machine: w.clients[5]}, {machine: &w.way}}
	c := newCrew()
	for i := range 40 {
		m := all[(i*i+i/7)%4]
		e := api.Event{Kind: api.ELose, Addr: api.Addr{Id: 10}, N: i}
		a := c.hand(m, task{Event: e})
		if m == all[3] && a.err != api.ErrPacket || m != all[3] && a.err != api.OK {
			t.Fatalf("%d: %+v", i, a)
		}
	}
	c.end()
	seen := map[string]int{routine(): 1}
	for i, m := range all {
		if len(m.in) == 0 || len(slices.Compact(m.in)) != 1 || seen[m.in[0]] > 0 {
			t.Fatalf("machine %d works in %v; others in %v", i, m.in, seen)
		}
		seen[m.in[0]]++
	}
}

// Ways: so it is in Play: a client's lines are made in a goroutine that is neither the caller's nor another client's.
func TestWaysPlay(t *testing.T) {
	w := fresh(t)
	in := map[int][]string{}
	for id, s := range w.clients {
		by, _ := client.New(config, id)
		s.user = file.New(by, func(l api.Line) { in[id] = append(in[id], routine()) })
	}
	create := api.Op{Kind: api.OCreate, Name: "plum"}
	read := api.Op{Kind: api.ORead, File: api.File{Client: 5, Op: 1}}
	to := func(client bool, id, n int) api.Event {
		return api.Event{Kind: api.EDeliver, Addr: api.Addr{Client: client, Id: id}, N: n}
	}
	for _, err := range w.Play([]api.Event{
		{Kind: api.EInvoke, Client: 5, Op: create}, {Kind: api.EInvoke, Client: 6, Op: read},
		to(true, 6, 1), to(true, 6, 2), to(true, 6, 3), to(false, 10, 1), to(false, 20, 1), to(false, 30, 1), {Kind: api.ETick, Client: 5},
	}) {
		if err != api.OK {
			t.Fatal(err)
		}
	}
	if len(in[5]) != 1 || len(in[6]) != 2 || in[6][0] != in[6][1] || in[5][0] == in[6][0] || in[5][0] == routine() || in[6][0] == routine() {
		t.Fatalf("%v; Play was called in %s", in, routine())
	}
}

// One goroutine a machine, from its first task on: a machine that has nothing to do needs none.
func TestWaysOneForEachMachine(t *testing.T) {
	w := fresh(t)
	c := newCrew()
	for i, m := range []machine{w.servers[10], w.servers[10], w.servers[20], w.servers[30], w.clients[5], w.servers[20], w.clients[6], &w.way, w.clients[5]} {
		c.hand(m, task{})
		if want := []int{1, 1, 2, 3, 4, 4, 5, 6, 6}[i]; len(c.desks) != want {
			t.Fatalf("behind task %d: %d goroutines, not %d", i, len(c.desks), want)
		}
	}
	c.end()
	for _, d := range c.desks {
		if _, open := <-d.tasks; open {
			t.Fatal("it is not closed")
		}
	}
}

// P1703: what goes to an address that is none of the world's is lost. (No event sends there: it is put under way by hand.)
func TestP1703NobodysAddress(t *testing.T) {
	w, twin := fresh(t), fresh(t)
	from := api.Addr{Id: 10}
	for i, to := range []api.Addr{{Id: 5}, {Id: 77}, {}, {Client: true}, {Client: true, Id: 20}, {Client: true, Id: 255}, {Id: -1}} {
		w.way.Send(api.Packet{From: from, To: to, Data: []byte{1, 2, 3}})
		deliver := api.Event{Kind: api.EDeliver, Addr: from, N: i + 1}
		if i%2 == 0 {
			if err := w.Do(deliver); err != api.OK {
				t.Fatalf("%v: %v", to, err)
			}
		} else if err := w.Play([]api.Event{deliver}); err[0] != api.OK {
			t.Fatalf("%v: %v", to, err)
		}
		if len(w.Under()) > 0 {
			t.Fatalf("%v: %v", to, w.Under())
		}
	}
	if a, b := told(w), told(twin); a != b {
		t.Fatalf("%s\nand\n%s", a, b)
	}
}

// told is what there is to see, but for the disks.
func told(w *World) string {
	all := fmt.Sprint(w.History(), w.Under())
	for _, id := range []int{10, 20, 30, 5, 6} {
		all += fmt.Sprint(w.Up(id), w.Pending(id), w.Bucket(id, 3))
	}
	return all
}

// P1704: over a disk of which server.New answers an error a server stays down. (In no world that events reach that is so: a record is laid there by hand.)
func TestP1704StaysDown(t *testing.T) {
	w := fresh(t)
	for _, e := range []api.Event{{Kind: api.EFall, Server: 20}, {Kind: api.EJunk, Server: 20}} {
		w.Do(e)
	}
	p := w.servers[20]
	s, err := stable.Open(p.disk, server.Most(config))
	if err != api.OK || s.Put(api.Key{Kind: api.KInstance, A: 3, B: 1}, []byte{1, 2}) != api.OK {
		t.Fatal(err)
	}
	image, _ := w.Image(20)
	for _, e := range []api.Event{{Kind: api.EStart, Server: 20}, {Kind: api.ETrim, Server: 20, N: 9}, {Kind: api.EQuota, Server: 20, N: 9}, {Kind: api.EStart, Server: 20}} {
		if err := w.Do(e); err != api.OK || w.Up(20) || w.Bucket(20, 3).Upto != 0 {
			t.Fatalf("%+v: %v, up %v", e, err, w.Up(20))
		}
	}
	if now, err := w.Image(20); err != api.OK || !slices.Equal(now, image) {
		t.Fatal("something was written")
	}
	p.disk, _ = disk.New(60)
	if w.Do(api.Event{Kind: api.EStart, Server: 20}); !w.Up(20) {
		t.Fatal("it stays down for ever")
	}
}

// A World that New did not make has nobody in it: no call of it panics.
func TestP1NoWorld(t *testing.T) {
	var w World
	for kind := -1; kind < 16; kind++ {
		for _, e := range []api.Event{{Kind: kind}, {Kind: kind, Server: 1}, {Kind: kind, Client: 1}, {Kind: kind, Addr: api.Addr{Id: 1}, N: 1}} {
			if err := w.Do(e); err == api.OK {
				t.Errorf("%+v: %v", e, err)
			}
			w.Play([]api.Event{e, e})
		}
	}
	if _, err := w.Image(1); err != api.ErrAddr || w.Up(0) || w.Pending(0) || w.Fair(0, 1) != -1 || len(w.History())+len(w.Under()) > 0 {
		t.Fatal("there is somebody")
	}
	w.Block(0, api.Key{})
	w.Bucket(0, 0)
	w.Instance(0, api.Key{})
}

// What is kept from call to call: the lines once, in the history; nothing of a Play.
func TestP1706LinesAreKeptOnce(t *testing.T) {
	w := fresh(t)
	op := api.Op{Kind: api.OLookup, Name: "plum"}
	for range 3 {
		for id := range w.clients {
			w.Play([]api.Event{{Kind: api.EInvoke, Client: id, Op: op}})
			w.Fair(id, 99)
		}
	}
	for id, s := range w.clients {
		if s.lines != nil {
			t.Errorf("client %d keeps %d lines", id, len(s.lines))
		}
	}
	learned := 0
	for _, l := range w.lines {
		if l.Kind == api.HLearn {
			learned++
		}
	}
	if learned != 6 || len(w.learned) != 6 || len(w.lines) != 18 {
		t.Errorf("%d lines, %d of them learned, %d keys", len(w.lines), learned, len(w.learned))
	}
}
