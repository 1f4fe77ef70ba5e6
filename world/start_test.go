package world_test

import (
	"slices"
	"testing"

	"cairn/api"
	"cairn/world"
)

var eight = []byte{1, 2, 3, 4, 5, 6, 7, 8}

// puts has an OWrite of a block by client 5, with its MPuts under way; it tells the name of the one to server 20.
func puts(t testing.TB, w scene, index int, data ...byte) (api.Addr, int) {
	t.Helper()
	do(t, w, invoke(5, write(fileOf(5, 1), index, data...)))
	for range 2 { // the queries, the answers
		for _, p := range w.Under() {
			do(t, w, deliver(p.From, p.Count))
		}
	}
	for _, p := range w.Under() {
		if p.To == node(20) && decoded(t, small(), p).Kind == api.MPut {
			return p.From, p.Count
		}
	}
	t.Fatal("no MPut is under way")
	return api.Addr{}, 0
}

// A server that is up is not started: what it is armed for stays.
func TestP1704StartOfOneThatIsUp(t *testing.T) {
	t.Parallel()
	k := block(fileOf(5, 1), 0)
	for _, arm := range []api.Event{fall(20, 0), tear(20, 0, 0)} {
		w := fresh(t)
		from, n := puts(t, w, 0, eight...)
		do(t, w, arm, start(20), start(20))
		if !w.Up(20) {
			t.Fatal("it is down")
		}
		if do(t, w, deliver(from, n)); w.Up(20) {
			t.Fatalf("%+v is forgotten by a start of one that is up", arm)
		}
		do(t, w, start(20))
		if !w.Up(20) || w.Block(20, k).Stamp.N != 0 {
			t.Fatalf("%+v", w.Block(20, k))
		}
	}
}

// Behind a start nothing is armed any more, neither what it fell by nor the other.
func TestP1704ArmedNoMore(t *testing.T) {
	t.Parallel()
	for i, arms := range [][]api.Event{
		{fall(20, 0)}, {tear(20, 0, 5)}, {fall(20, 0), tear(20, 0, 5)}, {tear(20, 0, 5), fall(20, 1)}, {tear(20, 3, 5), fall(20, 1)}, {fall(20, 9), tear(20, 9, 9)}, {fall(20, 0), fall(20, 1)},
	} {
		w := fresh(t)
		from, n := puts(t, w, 0, eight...)
		do(t, w, double(from, n), double(from, n))
		do(t, w, arms...)
		if do(t, w, deliver(from, n)); w.Up(20) {
			t.Fatalf("%d: it is up", i)
		}
		do(t, w, fall(20, 0), tear(20, 0, 0)) // at one that is down these do nothing
		do(t, w, start(20), junk(20, 1), deliver(from, n), junk(20, 1))
		if !w.Up(20) || w.Block(20, block(fileOf(5, 1), 0)).Stamp.N != 1 {
			t.Fatalf("%d: up %v, %+v", i, w.Up(20), w.Block(20, block(fileOf(5, 1), 0)))
		}
		deliverAll(t, w)
		for j := range 5 { // as many writes as it was armed for
			from, n := puts(t, w, j+1, eight...)
			do(t, w, deliver(from, n))
			deliverAll(t, w)
		}
		if !w.Up(20) {
			t.Fatalf("%d: it has fallen", i)
		}
	}
}

// A second EFall, a second ETear takes the place of the first.
func TestP1704ArmedAnew(t *testing.T) {
	t.Parallel()
	k := block(fileOf(5, 1), 0)
	for i, x := range []struct {
		arms []api.Event
		n    int // of the Stamp that it holds behind its start
	}{
		{[]api.Event{fall(20, 0), fall(20, 1)}, 1}, {[]api.Event{fall(20, 1), fall(20, 0)}, 0}, {[]api.Event{tear(20, 0, 0), tear(20, 0, 512)}, 1}, {[]api.Event{tear(20, 0, 512), tear(20, 0, 0)}, 0},
		{[]api.Event{tear(20, 0, 600), fall(20, 0)}, 0}, {[]api.Event{tear(20, 0, 600), fall(20, 1)}, 1}, {[]api.Event{fall(20, 1<<40)}, 1},
	} {
		w := fresh(t)
		from, n := puts(t, w, 0, eight...)
		do(t, w, x.arms...)
		do(t, w, deliver(from, n))
		if w.Up(20) {
			t.Fatalf("%d: it is up", i)
		}
		if do(t, w, start(20)); w.Block(20, k).Stamp.N != x.n {
			t.Fatalf("%d: %+v", i, w.Block(20, k))
		}
	}
}

// At one that is down nothing happens, but what P1702 names ahead of the rows, and EJunk's ErrEvent.
func TestP1704Down(t *testing.T) {
	t.Parallel()
	downed := func() scene {
		w := made(t, small(), 100, 5)
		run(t, w, 5, create("plum"))
		deliverAll(t, w)
		do(t, w, felled(20)...)
		return w
	}
	w, twin := downed(), downed()
	h := hall{small(), []int{5}, 100}
	for _, x := range []struct {
		e    api.Event
		want api.Errno
	}{
		{fall(20, 0), api.OK}, {tear(20, 0, 0), api.OK}, {trim(20, 3, 9), api.OK}, {trim(20, 4, 0), api.OK}, {mend(20, 30, bucketKey(3)), api.OK}, {mend(20, 20, bucketKey(3)), api.OK},
		{mend(20, 77, bucketKey(9)), api.OK}, {mend(20, 0, api.Key{}), api.OK}, {junk(20, 1), api.OK}, {junk(20), api.OK}, {junk(20, query(t, small(), 20)...), api.ErrEvent},
		{fall(20, -1), api.ErrEvent}, {trim(20, 0, -1), api.ErrEvent}, {tear(20, 0, -1), api.ErrEvent}, {api.Event{Kind: api.EStart, Server: 20, N: 1}, api.ErrEvent},
	} {
		if err := w.Do(x.e); err != x.want {
			t.Errorf("%+v: %v, not %v", x.e, err, x.want)
		}
		h.mustBeAlike(t, w, twin)
	}
	do(t, w, start(20), junk(20, 1), trim(20, 3, 9))
	if !w.Up(20) || w.Bucket(20, 3).Upto != 1 {
		t.Fatal("what was said to it as it was down counts")
	}
}

// Started twice, fallen again and again: it holds what lies on its disk.
func TestP1704Again(t *testing.T) {
	t.Parallel()
	w := fresh(t)
	for i := range 5 {
		data := slices.Repeat([]byte{byte(i + 1)}, 8)
		run(t, w, 5, write(fileOf(5, 1), 0, data...))
		deliverAll(t, w)
		held := w.Block(20, block(fileOf(5, 1), 0))
		image, _ := w.Image(20)
		if held.Stamp.N != i+1 {
			t.Fatalf("%+v", held)
		}
		do(t, w, felled(20)...)
		if x := w.Block(20, block(fileOf(5, 1), 0)); w.Up(20) || x.Stamp.N != 0 || len(x.Data) > 0 {
			t.Fatalf("up %v, %+v", w.Up(20), x)
		}
		do(t, w, start(20), start(20))
		if x := w.Block(20, block(fileOf(5, 1), 0)); !w.Up(20) || !sameBlock(x, held) {
			t.Fatalf("up %v, %+v", w.Up(20), x)
		}
		if now, _ := w.Image(20); !slices.Equal(now, image) {
			t.Fatal("a start has written")
		}
	}
}

// lays tells whether server 20 has room for a new block.
func lays(t testing.TB, w *world.World, index int) bool {
	t.Helper()
	from, n := puts(t, w, index, eight...)
	do(t, w, deliver(from, n))
	there := w.Block(20, block(fileOf(5, 1), index)).Stamp.N > 0
	loseAll(t, w)
	w.Fair(5, 9)
	loseAll(t, w)
	return there
}

// A quota counts at once, and behind each start; whether it was said ahead of the fall or behind it; the last one counts.
func TestP1704Quota(t *testing.T) {
	t.Parallel()
	down := felled(20)
	for i, x := range []struct {
		events []api.Event
		blocks int // how many of four new ones have room; each takes two sectors
	}{
		{nil, 4}, {[]api.Event{quota(20, 0)}, 0}, {[]api.Event{quota(20, 1)}, 0}, {[]api.Event{quota(20, 2)}, 1}, {[]api.Event{quota(20, 5)}, 2}, {[]api.Event{quota(20, 1<<40)}, 4}, {[]api.Event{quota(10, 0), quota(30, 400)}, 4},
		{slices.Concat([]api.Event{quota(20, 2)}, down, []api.Event{start(20)}), 1},
		{slices.Concat([]api.Event{quota(20, 2)}, down, []api.Event{start(20)}, down, []api.Event{start(20)}), 1},
		{slices.Concat(down, []api.Event{quota(20, 2), start(20)}), 1},
		{slices.Concat([]api.Event{quota(20, 0)}, down, []api.Event{quota(20, 4), start(20)}), 2},
		{slices.Concat([]api.Event{quota(20, 4)}, down, []api.Event{quota(20, 0), start(20)}), 0},
		{slices.Concat([]api.Event{quota(20, 0)}, down, []api.Event{start(20), quota(20, 6)}), 3},
		{[]api.Event{quota(20, 0), quota(20, 400), start(20)}, 4},
		{slices.Concat([]api.Event{quota(20, 0), quota(20, 400)}, down, []api.Event{start(20)}), 4},
		{slices.Concat([]api.Event{quota(20, 2), tear(20, 0, 7), fall(20, 0), junk(20), start(20), start(20)}), 1},
		{slices.Concat(down, []api.Event{start(20)}), 4},
	} {
		w := made(t, small(), 100, 5)
		do(t, w, x.events...)
		blocks := 0
		for index := range 4 {
			if lays(t, w, index) {
				blocks++
			}
		}
		if blocks != x.blocks {
			t.Errorf("%d: %d blocks have room, not %d", i, blocks, x.blocks)
		}
	}
}

// What lies there when the quota is said stays, and is replaced without room.
func TestP1704QuotaOfWhatLiesThere(t *testing.T) {
	t.Parallel()
	w := made(t, small(), 100, 5)
	if !lays(t, w, 0) {
		t.Fatal("there is no room at first")
	}
	was := w.Block(20, block(fileOf(5, 1), 0))
	do(t, w, quota(20, 0))
	do(t, w, again(20)...)
	if x := w.Block(20, block(fileOf(5, 1), 0)); !sameBlock(x, was) {
		t.Fatalf("%+v", x)
	}
	if lays(t, w, 1) || !lays(t, w, 0) || w.Block(20, block(fileOf(5, 1), 0)).Stamp.N != was.Stamp.N+1 {
		t.Fatalf("%+v", w.Block(20, block(fileOf(5, 1), 0)))
	}
}
