package world_test

import (
	"bytes"
	"fmt"
	"slices"
	"testing"

	"cairn/api"
	"cairn/world"
)

// roomy has these, with others in its spare room.
func roomy[T any](list []T, spare T) []T {
	return append(slices.Clone(list), spare, spare, spare)[:len(list)]
}

// spoil fills a list, its spare room too.
func spoil[T any](list []T, with T) {
	list = list[:cap(list)]
	for i := range list {
		list[i] = with
	}
}

// handed is an event as it is handed in, with its lists' spare room filled.
func handed(e api.Event) api.Event {
	e.Data, e.Op.Data = roomy(e.Data, 'r'), roomy(e.Op.Data, 'r')
	return e
}

// spoilEvent fills an event's lists.
func spoilEvent(e api.Event) {
	spoil(e.Data, '#')
	spoil(e.Op.Data, '#')
}

// unchanged tells whether the lists of an event that was handed in, their spare room too, are what they were.
func unchanged(given, e api.Event) bool {
	same := func(b, was []byte) bool { return string(b[:len(was)+3]) == string(was)+"rrr" }
	return same(given.Data, e.Data) && same(given.Op.Data, e.Op.Data)
}

// What is handed in is not changed and not kept: spoilt behind each call, it changes nothing.
func TestP2HandedIn(t *testing.T) {
	t.Parallel()
	for _, h := range halls() {
		for seed := range int64(12) {
			servers, clients := roomy(h.c.Servers, 99), roomy(h.clients, 99)
			c := h.c
			c.Servers = servers
			a, err := world.New(c, clients, h.sectors)
			if err != api.OK || !slices.Equal(servers, h.c.Servers) || !slices.Equal(clients, h.clients) || servers[:cap(servers)][len(servers)] != 99 {
				t.Fatalf("New: %v, %v, %v", err, servers, clients)
			}
			spoil(servers, 1)
			spoil(clients, 1)
			r, b := h.lot(t, seed), h.made(t)
			for i := range 150 {
				e := r.event(b)
				given := handed(e)
				var x api.Errno
				if i%3 == 0 {
					l := roomy([]api.Event{given}, api.Event{Kind: api.EStop, Client: 5})
					x = a.Play(l)[0]
					if l[:cap(l)][1].Kind != api.EStop {
						t.Fatal("the list's spare room is changed")
					}
					spoil(l, api.Event{Kind: api.EStop, Client: 5})
				} else {
					x = a.Do(given)
				}
				if y := b.Do(e); x != y || !unchanged(given, e) {
					t.Fatalf("seed %d, %d: %+v: %v, and %v", seed, i, e, x, y)
				}
				spoilEvent(given)
			}
			h.mustBeAlike(t, a, b)
		}
	}
}

// spoilTold asks for all that there is to see, and fills it, its spare room too.
func (h hall) spoilTold(w scene) {
	lines := w.History()
	keys := h.keys(lines)
	for _, l := range lines {
		spoil(l.Op.Data, '#')
		spoil(l.Result.Data, '#')
		spoil(l.Result.List, api.Entry{Name: "#"})
	}
	spoil(lines, api.Line{Kind: 99})
	under := w.Under()
	for _, p := range under {
		spoil(p.Data, '#')
	}
	spoil(under, api.Packet{Count: 99})
	for _, id := range h.c.Servers {
		image, _ := w.Image(id)
		spoil(image, '#')
		for number := range h.c.Buckets {
			b := w.Bucket(id, number)
			spoil(b.Entries, api.Entry{Name: "#"})
			spoil(b.Lasts, api.Last{Op: 99})
		}
		for _, k := range keys {
			spoil(w.Block(id, k).Data, '#')
		}
	}
}

// What is told is the caller's own: filled, it changes nothing, in the world or in what is told later.
func TestP2Told(t *testing.T) {
	t.Parallel()
	for _, h := range halls() {
		for seed := range int64(6) {
			r, a, b := h.lot(t, seed), h.made(t), h.made(t)
			for i := range 120 {
				e := r.event(b)
				x := a.Play([]api.Event{e})
				if y := b.Do(e); x[0] != y {
					t.Fatalf("seed %d, %d: %+v: %v, and %v", seed, i, e, x, y)
				}
				spoil(x, api.ErrWord)
				h.spoilTold(a)
				if fault := h.unlikeAtAGlance(a, b); fault != "" {
					t.Fatalf("seed %d, behind %d: %s", seed, i, fault)
				}
			}
			h.mustBeAlike(t, a, b)
			if x, y := a.Fair(h.clients[0], 5), b.Fair(h.clients[0], 5); x != y {
				t.Fatalf("Fair: %d, and %d", x, y)
			}
			h.mustBeAlike(t, a, b)
		}
	}
}

// rich is a world of which each list that may be told has something in it.
func rich(t testing.TB) *world.World {
	t.Helper()
	w := made(t, small(), 120, 5, 6)
	for _, o := range []api.Op{create("plum"), create("plum"), write(fileOf(5, 1), 0, eight...), read(fileOf(5, 1), 0), writeAt("plum", 0, eight...), readAt("plum", 0, 8), list(3), list(3)} {
		run(t, w, 5, o)
		deliverAll(t, w)
	}
	run(t, w, 6, create("a"))
	do(t, w, trim(20, 3, 1), invoke(6, write(fileOf(5, 1), 0, eight...)), tick(6))
	return w
}

// No two lists of one answer share memory, and no two answers.
func TestP2ListsAreApart(t *testing.T) {
	t.Parallel()
	w := rich(t)
	var told []*byte // the first bytes of all lists of bytes
	var lists []*api.Entry
	note := func(b []byte) {
		if cap(b) > 0 {
			told = append(told, &b[:1][0])
		}
	}
	for range 2 {
		for _, l := range w.History() {
			note(l.Op.Data)
			note(l.Result.Data)
			if cap(l.Result.List) > 0 {
				lists = append(lists, &l.Result.List[:1][0])
			}
		}
		for _, p := range w.Under() {
			note(p.Data)
		}
		note(w.Block(20, block(fileOf(5, 1), 0)).Data)
		if b := w.Bucket(20, 3); len(b.Entries) > 0 {
			lists = append(lists, &b.Entries[0])
		}
	}
	seen := map[any]int{}
	for _, p := range told {
		seen[p]++
	}
	for _, p := range lists {
		seen[p]++
	}
	if len(told) < 20 || len(lists) < 6 || len(seen) != len(told)+len(lists) {
		t.Fatalf("%d lists of bytes, %d others, %d unlike", len(told), len(lists), len(seen))
	}
}

// What was told earlier stays as it was, whatever happens then.
func TestP2ToldEarlier(t *testing.T) {
	t.Parallel()
	w := rich(t)
	lines, under, image := w.History(), w.Under(), bytes.Clone(first(w.Image(20)))
	held, dir := w.Block(20, block(fileOf(5, 1), 0)), w.Bucket(20, 3)
	same, _ := w.Image(20)
	was := fmt.Sprintf("%+v %+v %+v %+v", lines, under, held, dir)
	deliverAll(t, w)
	run(t, w, 5, write(fileOf(5, 1), 0, 9, 9, 9, 9, 9, 9, 9, 9))
	run(t, w, 5, remove("plum"))
	deliverAll(t, w)
	do(t, w, trim(20, 3, 99))
	do(t, w, again(20)...)
	if now := fmt.Sprintf("%+v %+v %+v %+v", lines, under, held, dir); now != was || !bytes.Equal(same, image) {
		t.Fatalf("%s\nis now\n%s", was, now)
	}
	if sameBlock(held, w.Block(20, block(fileOf(5, 1), 0))) || sameBucket(dir, w.Bucket(20, 3)) {
		t.Fatal("nothing has happened")
	}
}

func first(b []byte, _ api.Errno) []byte { return b }

// Two worlds in turns know nothing of each other; the same calls answer the same, again and again.
func TestP3TwoInTurns(t *testing.T) {
	t.Parallel()
	all := halls()
	for seed := range int64(8) {
		h, g := all[seed%int64(len(all))], all[(seed+1)%int64(len(all))]
		a, b := h.made(t), g.made(t)
		first, wantA := script(h.lot(t, seed), a, 150)
		second, wantB := script(g.lot(t, seed+100), b, 150)
		c, d := h.made(t), g.made(t)
		for i := range first {
			if x := c.Do(first[i]); x != wantA[i] {
				t.Fatalf("%d: %v, not %v", i, x, wantA[i])
			}
			if x := d.Play(second[i : i+1]); x[0] != wantB[i] {
				t.Fatalf("%d: %v, not %v", i, x, wantB[i])
			}
		}
		h.mustBeAlike(t, a, c)
		g.mustBeAlike(t, b, d)
		h.mustBeAlike(t, a, c)
	}
}

// Two worlds of one configuration and one list of clients, handed in as the same lists.
func TestP3OneConfiguration(t *testing.T) {
	t.Parallel()
	c, clients := small(), []int{5, 6}
	a, _ := world.New(c, clients, 60)
	b, _ := world.New(c, clients, 60)
	twin := made(t, small(), 60, 5, 6)
	run(t, a, 5, create("plum"))
	do(t, a, felled(20)...)
	do(t, a, stop(6), quota(30, 0))
	(hall{c, clients, 60}).mustBeAlike(t, b, twin)
	if r := run(t, b, 6, create("plum")); r.Err != api.OK || r.Instance != 1 {
		t.Fatalf("%+v", r)
	}
}
