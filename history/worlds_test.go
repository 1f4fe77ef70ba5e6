package history_test

import (
	"fmt"
	"math/rand"
	"slices"
	"sync"
	"testing"

	"cairn/api"
	"cairn/history"
	"cairn/world"
)

// stage is a world, and what happens there is drawn.
type stage struct {
	*rand.Rand
	*world.World
	c       api.Config
	clients []int
	calm    bool // no server falls, and nothing is lost
	kinds   []int
	names   []string
}

// stages are the worlds that are played.
func stages() []api.Config {
	return []api.Config{
		{Servers: []int{30, 10, 20}, F: 1, Points: 2, Buckets: 2, Block: 2, Room: 2},
		{Servers: []int{7}, Points: 1, Buckets: 1, Block: 1, Room: 1},
		{Servers: []int{1, 2, 3, 4, 5}, F: 1, Points: 3, Buckets: 1, Block: 1, Room: 3},
		{Servers: []int{5, 4, 3, 2, 1}, F: 2, Points: 1, Buckets: 3, Block: 3, Room: 2},
		{Servers: []int{1, 2}, Points: 2, Buckets: 2, Block: 1, Room: 2},
	}
}

func newStage(t testing.TB, seed int64) *stage {
	t.Helper()
	s := &stage{Rand: rand.New(rand.NewSource(seed)), c: stages()[seed%int64(len(stages()))], names: []string{"plum", "a", "oar"}}
	s.clients = []int{1, 255, 7, 9}[:2+s.Intn(3)]
	s.calm = s.Intn(3) == 0
	blocks := []int{api.ORead, api.OWrite, api.ORead}
	buckets := []int{api.OCreate, api.OCreate, api.ORemove, api.OLookup, api.OLookup, api.OList, api.OSetSize, api.OGrow, api.OReplace}
	parts := []int{api.OReadAt, api.OWriteAt, api.OTruncate, api.OCopy}
	s.kinds = oneOf(s.Rand, blocks, buckets, slices.Concat(blocks, buckets, parts), slices.Concat([]int{api.OCreate}, parts, parts))
	w, err := world.New(s.c, s.clients, 300)
	if err != api.OK {
		t.Fatal(err)
	}
	s.World = w
	return s
}

func (s *stage) file() api.File {
	var all []api.File
	for _, l := range s.History() {
		if l.Kind == api.HReturn && l.Result.Entry.File.Op > 0 {
			all = append(all, l.Result.Entry.File)
		}
	}
	if len(all) == 0 || s.Intn(3) == 0 {
		return theFile()
	}
	return oneOf(s.Rand, all...)
}

func (s *stage) op() api.Op {
	o := api.Op{Kind: oneOf(s.Rand, s.kinds...), Name: oneOf(s.Rand, s.names...)}
	data := make([]byte, s.c.Block)
	s.Read(data)
	size := s.Intn(3 * s.c.Block)
	switch o.Kind {
	case api.OList:
		return list(s.Intn(s.c.Buckets))
	case api.OSetSize, api.OGrow:
		o.File, o.N = s.file(), size
	case api.OReplace:
		o.File, o.New, o.N = s.file(), s.file(), size
	case api.ORead:
		return readOf(s.file(), s.Intn(2))
	case api.OWrite:
		return writeOf(s.file(), s.Intn(2), data...)
	case api.OReadAt:
		o.At, o.N = s.Intn(4), size
	case api.OWriteAt:
		o.At, o.Data = s.Intn(4), append(data, 7)
	case api.OTruncate:
		o.N = size
	case api.OCopy:
		o.Other = oneOf(s.Rand, s.names...)
	}
	return o
}

// packet draws the name of one that is under way, mostly of those that have been for longest.
func (s *stage) packet(kind int) api.Event {
	all := s.Under()
	if len(all) == 0 {
		return api.Event{Kind: api.ETick, Client: oneOf(s.Rand, s.clients...)}
	}
	p := all[s.Intn(min(len(all), 5))]
	if s.Intn(3) == 0 {
		p = oneOf(s.Rand, all...)
	}
	return api.Event{Kind: kind, Addr: p.From, N: p.Count}
}

func (s *stage) event() api.Event {
	server, client := oneOf(s.Rand, s.c.Servers...), oneOf(s.Rand, s.clients...)
	n := s.Intn(100)
	if s.calm && n >= 72 && n < 82 {
		n = 0
	}
	switch {
	case n < 52:
		return s.packet(api.EDeliver)
	case n < 55:
		return s.packet(api.EDouble)
	case n < 68:
		return api.Event{Kind: api.EInvoke, Client: client, Op: s.op()}
	case n < 72:
		return api.Event{Kind: api.ETick, Client: client}
	case n < 74:
		return s.packet(api.ELose)
	case n < 77:
		return api.Event{Kind: api.EFall, Server: server, N: s.Intn(3)}
	case n < 80:
		return api.Event{Kind: api.ETear, Server: server, N: s.Intn(4), Torn: s.Intn(513)}
	case n < 82:
		return api.Event{Kind: api.EQuota, Server: server, N: oneOf(s.Rand, 2, 60, 300, 300)}
	case n < 90:
		return api.Event{Kind: api.EStart, Server: server}
	case n < 94:
		return api.Event{Kind: api.ETrim, Server: server, N: s.Intn(s.c.Buckets), Upto: s.Intn(9)}
	case n < 98:
		key := oneOf(s.Rand, api.Key{Kind: api.KBucket, A: s.Intn(s.c.Buckets)}, api.Key{Kind: api.KBlock, A: 1, B: 1, C: s.Intn(2)})
		return api.Event{Kind: api.EMend, Server: server, Other: oneOf(s.Rand, s.c.Servers...), Key: key}
	case n < 99 && s.Intn(3) == 0:
		return api.Event{Kind: api.EStop, Client: client}
	}
	return api.Event{Kind: api.EJunk, Server: server, Data: []byte{1, 2, 3}}
}

// play has so many events happen, and now and then a Fair; it looks at the history behind some of them.
func (s *stage) play(events int, look func(l []api.Line)) {
	for i := range events {
		if s.Intn(40) == 0 {
			s.Fair(oneOf(s.Rand, s.clients...), 1+s.Intn(6))
		} else {
			s.Do(s.event())
		}
		if i%40 == 39 {
			look(s.History())
		}
	}
	look(s.History())
}

// mustBeOfOneStore is P1808.
func mustBeOfOneStore(t testing.TB, c api.Config, l []api.Line) []int {
	t.Helper()
	mustBeRight(t, c, l, api.OK)
	order, ok := history.Witness(c, l)
	if !ok {
		t.Fatalf("Witness: none, of\n%s", words(l))
	}
	mustBeLegal(t, c, l, len(order), order...)
	return order
}

// The history of every world that a script reaches is one of one store.
func TestP1808Worlds(t *testing.T) {
	t.Parallel()
	var lock sync.Mutex
	ends := map[string]int{}
	for part := range int64(8) {
		t.Run(fmt.Sprint(part), func(t *testing.T) {
			t.Parallel()
			own := map[string]int{}
			for seed := part; seed < 4000; seed += 8 {
				s := newStage(t, seed)
				s.play(400, func(l []api.Line) {
					order := mustBeOfOneStore(t, s.c, l)
					count(own, s.c, l, order)
				})
			}
			lock.Lock()
			defer lock.Unlock()
			for what, n := range own {
				ends[what] += n
			}
		})
	}
	t.Cleanup(func() {
		for _, what := range []string{"kind 1", "kind 2", "kind 3", "kind 4", "kind 5", "an open OWrite took place", "an open command took place", "an open one did not",
			"another order than that of the places"} {
			if ends[what] < 200 {
				t.Errorf("too few of %q to tell: %v", what, ends)
			}
		}
	})
}

// count notes what a world's history has to show.
func count(ends map[string]int, c api.Config, l []api.Line, order []int) {
	for _, x := range l {
		ends[fmt.Sprint("kind ", x.Kind)]++
	}
	newPlain(c, l, "", nil).countTook(ends)
	if !slices.IsSorted(order) {
		ends["another order than that of the places"]++
	}
}

// Histories of worlds, as they are and with lines spoilt, are looked at by the chapter's words.
func TestP1804HistoriesOfWorlds(t *testing.T) {
	t.Parallel()
	for seed := range int64(40) {
		s := newStage(t, seed)
		s.play(160, func([]api.Line) {})
		l := s.History()
		r := newTeller(s.c, seed)
		look(s.c, l, r.orders(l)...).mustBePlain(t)
		for range 10 {
			m := r.spoilt(l)
			look(s.c, m, r.orders(m)...).mustBePlain(t)
		}
	}
}

// A store that forgets is found out: an answer that is another one, a stamp or an instance that is.
func TestP1808OtherAnswersAreFoundOut(t *testing.T) {
	t.Parallel()
	changed := 0
	for seed := range int64(60) {
		s := newStage(t, seed)
		s.play(500, func([]api.Line) {})
		l := s.History()
		for i, x := range l {
			if x.Kind != api.HReturn {
				continue
			}
			m := copied(l)
			if len(x.Result.Data) > 0 {
				m[i].Result.Data[0]++
			} else {
				m[i].Result.Entry.Size++
			}
			order, ok := history.Witness(s.c, m)
			if !ok || history.Legal(s.c, m, order) == len(order) {
				t.Fatalf("seed %d: the answer of %d: %v, %v, of\n%s", seed, i, order, ok, words(m))
			}
			changed++
		}
	}
	if changed < 500 {
		t.Errorf("too few to tell: %d", changed)
	}
}
