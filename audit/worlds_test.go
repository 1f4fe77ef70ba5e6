package audit_test

import (
	"fmt"
	"math/rand"
	"slices"
	"sync"
	"testing"

	"cairn/api"
	"cairn/disk"
	"cairn/server"
	"cairn/stable"
	"cairn/world"
)

// stage is a world, and what happens there is drawn.
type stage struct {
	*rand.Rand
	*world.World
	c       api.Config
	clients []int
	calm    bool // no server falls
	kinds   []int
}

// stages are the worlds that are played.
func stages() []api.Config {
	return []api.Config{
		{Servers: []int{30, 10, 20}, F: 1, Points: 2, Buckets: 2, Block: 2, Room: 2},
		{Servers: []int{7}, Points: 1, Buckets: 1, Block: 1, Room: 1},
		{Servers: []int{1, 2, 3, 4, 5}, F: 1, Points: 3, Buckets: 1, Block: 1, Room: 3},
		{Servers: []int{5, 4, 3, 2, 1}, F: 2, Points: 1, Buckets: 3, Block: 3, Room: 2},
		{Servers: []int{1, 2}, Points: 2, Buckets: 2, Block: 1, Room: 2},
	}
}

func newStage(t testing.TB, seed int64) *stage {
	t.Helper()
	s := &stage{Rand: rand.New(rand.NewSource(seed)), c: stages()[seed%int64(len(stages()))]}
	s.clients = []int{1, 255, 7, 9}[:2+s.Intn(3)]
	s.calm = s.Intn(3) == 0
	blocks := []int{api.ORead, api.OWrite, api.OWrite}
	buckets := []int{api.OCreate, api.OCreate, api.ORemove, api.OLookup, api.OList, api.OSetSize, api.OGrow, api.OReplace}
	parts := []int{api.OReadAt, api.OWriteAt, api.OTruncate, api.OCopy}
	s.kinds = oneOf(s.Rand, blocks, buckets, buckets, slices.Concat(blocks, buckets, parts), slices.Concat([]int{api.OCreate}, parts, parts))
	w, err := world.New(s.c, s.clients, 300)
	if err != api.OK {
		t.Fatal(err)
	}
	s.World = w
	return s
}

func (s *stage) file() api.File {
	return api.File{Client: oneOf(s.Rand, s.clients...), Op: 1 + s.Intn(2)}
}

func (s *stage) op() api.Op {
	o := api.Op{Kind: oneOf(s.Rand, s.kinds...), Name: oneOf(s.Rand, "plum", "a", "oar")}
	size, f := s.Intn(3*s.c.Block), s.file()
	data := make([]byte, s.c.Block)
	s.Read(data)
	switch o.Kind {
	case api.OList:
		return api.Op{Kind: api.OList, N: s.Intn(s.c.Buckets)}
	case api.OSetSize, api.OGrow:
		o.File, o.N = f, size
	case api.OReplace:
		o.File, o.New, o.N = f, s.file(), size
	case api.ORead:
		return api.Op{Kind: api.ORead, File: f, N: s.Intn(2)}
	case api.OWrite:
		return api.Op{Kind: api.OWrite, File: f, N: s.Intn(2), Data: data}
	case api.OReadAt:
		o.At, o.N = s.Intn(4), size
	case api.OWriteAt:
		o.At, o.Data = s.Intn(4), append(data, 7)
	case api.OTruncate:
		o.N = size
	case api.OCopy:
		o.Other = oneOf(s.Rand, "plum", "a", "oar")
	}
	return o
}

// packet draws the name of one that is under way, mostly of those that have been for longest.
func (s *stage) packet(kind int) api.Event {
	under := s.Under()
	if len(under) == 0 {
		return api.Event{Kind: api.ETick, Client: oneOf(s.Rand, s.clients...)}
	}
	p := under[s.Intn(min(len(under), 5))]
	if s.Intn(3) == 0 {
		p = oneOf(s.Rand, under...)
	}
	return api.Event{Kind: kind, Addr: p.From, N: p.Count}
}

func (s *stage) event() api.Event {
	id, client := oneOf(s.Rand, s.c.Servers...), oneOf(s.Rand, s.clients...)
	n := s.Intn(100)
	if s.calm && n >= 74 && n < 82 {
		n = 0
	}
	switch {
	case n < 52:
		return s.packet(api.EDeliver)
	case n < 55:
		return s.packet(api.EDouble)
	case n < 68:
		return api.Event{Kind: api.EInvoke, Client: client, Op: s.op()}
	case n < 72:
		return api.Event{Kind: api.ETick, Client: client}
	case n < 74:
		return s.packet(api.ELose)
	case n < 77:
		return api.Event{Kind: api.EFall, Server: id, N: s.Intn(3)}
	case n < 80:
		return api.Event{Kind: api.ETear, Server: id, N: s.Intn(4), Torn: s.Intn(513)}
	case n < 82:
		return api.Event{Kind: api.EQuota, Server: id, N: oneOf(s.Rand, 2, 60, 300, 300)}
	case n < 90:
		return api.Event{Kind: api.EStart, Server: id}
	case n < 94:
		return api.Event{Kind: api.ETrim, Server: id, N: s.Intn(s.c.Buckets), Upto: s.Intn(9)}
	case n < 98:
		f := s.file()
		key := oneOf(s.Rand, dir(s.Intn(s.c.Buckets)), api.Key{Kind: api.KBlock, A: f.Client, B: f.Op, C: s.Intn(2)})
		return api.Event{Kind: api.EMend, Server: id, Other: oneOf(s.Rand, s.c.Servers...), Key: key}
	case n < 99 && s.Intn(3) == 0:
		return api.Event{Kind: api.EStop, Client: client}
	}
	return api.Event{Kind: api.EJunk, Server: id, Data: []byte{1, 2, 3}}
}

// play has so many events happen, and now and then a Fair; it looks at the disks behind some of them.
func (s *stage) play(events int, look func()) {
	for i := range events {
		if s.Intn(40) == 0 {
			s.Fair(oneOf(s.Rand, s.clients...), 1+s.Intn(6))
		} else {
			s.Do(s.event())
		}
		if i%50 == 49 {
			look()
		}
	}
}

// disks are those of all servers, in some order.
func (s *stage) disks(t testing.TB) []api.Image {
	t.Helper()
	var l []api.Image
	for _, id := range s.c.Servers {
		data, err := s.Image(id)
		if err != api.OK {
			t.Fatal(err)
		}
		l = append(l, api.Image{Server: id, Data: data})
	}
	s.Shuffle(len(l), func(i, j int) { l[i], l[j] = l[j], l[i] })
	return l
}

// traysOf are what lies on images, as stable tells it.
func traysOf(t testing.TB, c api.Config, l []api.Image) []tray {
	t.Helper()
	var all []tray
	for _, x := range l {
		d, err := disk.Load(x.Data)
		if err != api.OK {
			t.Fatal(err)
		}
		store, err := stable.Open(d, server.Most(c))
		if err != api.OK {
			t.Fatal(err)
		}
		s := tray{x.Server, records{}}
		for k, b := range store.All() {
			s.records[k] = b
		}
		all = append(all, s)
	}
	return all
}

// inParts has eight of them work side by side; of what they count there must be enough.
func inParts(t *testing.T, least int, wanted []string, do func(t *testing.T, part int64, ends map[string]int)) {
	var lock sync.Mutex
	ends := map[string]int{}
	for part := range int64(8) {
		t.Run(fmt.Sprint(part), func(t *testing.T) {
			t.Parallel()
			own := map[string]int{}
			do(t, part, own)
			lock.Lock()
			defer lock.Unlock()
			for what, n := range own {
				ends[what] += n
			}
		})
	}
	t.Cleanup(func() {
		for _, what := range wanted {
			if ends[what] < least {
				t.Errorf("too few of %q to tell: %v", what, ends)
			}
		}
	})
}

// Of the disks of a world that a script reaches no fault is told; of some of them neither.
func TestP1906Worlds(t *testing.T) {
	t.Parallel()
	wanted := []string{"blocks", "trimmed buckets", "instances that are decided", "instances that are accepted", "instances that are promised",
		"instances that are forgotten and lie there still", "a server that is down"}
	inParts(t, 100, wanted, func(t *testing.T, part int64, ends map[string]int) {
		for seed := part; seed < 2400; seed += 8 {
			s := newStage(t, seed)
			s.play(400, func() {
				l := s.disks(t)
				if found := faultsOf(t, s.c, l); len(found) > 0 {
					t.Fatalf("seed %d: %v, of\n%s", seed, found, words(traysOf(t, s.c, l)))
				}
				if found := faultsOf(t, s.c, l[:s.Intn(len(l)+1)]); len(found) > 0 {
					t.Fatalf("seed %d: of some of them: %v", seed, found)
				}
			})
			countDisks(ends, slipsOf(s.c, traysOf(t, s.c, s.disks(t))))
			for _, id := range s.c.Servers {
				if !s.Up(id) {
					ends["a server that is down"]++
				}
			}
		}
	})
}

// countDisks notes what a world's disks have to show.
func countDisks(ends map[string]int, l []slip) {
	for _, s := range l {
		switch {
		case s.key.Kind == api.KBlock:
			ends["blocks"]++
		case s.key.Kind == api.KBucket:
			ends["trimmed buckets"]++
		case plain{slips: l}.isForgotten(s):
			ends["instances that are forgotten and lie there still"]++
		case s.instance.Decided:
			ends["instances that are decided"]++
		case s.instance.Accepted != api.Stamp{}:
			ends["instances that are accepted"]++
		default:
			ends["instances that are promised"]++
		}
	}
}

// What disks of worlds hold is looked at by the chapter's words: as it is, and with a record or two spoilt.
func TestP1902DisksOfWorlds(t *testing.T) {
	t.Parallel()
	inParts(t, 30, []string{"kind 1", "kind 3", "kind 4", "kind 5", "no fault"}, func(t *testing.T, part int64, ends map[string]int) {
		for seed := part; seed < 320; seed += 8 {
			s := newStage(t, seed)
			s.play(250, func() {})
			l := s.disks(t)
			look(s.c, traysOf(t, s.c, l), l, 4).mustBePlain(t)
			for range 8 {
				m := s.spoiltDisks(t, l)
				x := look(s.c, traysOf(t, s.c, m), m, 4)
				x.mustBePlain(t)
				x.count(ends)
			}
		}
	})
}

// spoiltDisks have a record or two that are others.
func (s *stage) spoiltDisks(t testing.TB, l []api.Image) []api.Image {
	t.Helper()
	l = slices.Clone(l)
	for range 1 + s.Intn(2) {
		i := s.Intn(len(l))
		d, err := disk.Load(l[i].Data)
		if err != api.OK {
			t.Fatal(err)
		}
		of := slipsOf(s.c, traysOf(t, s.c, l[i:i+1]))
		if len(of) == 0 {
			continue
		}
		slices.SortFunc(of, func(a, b slip) int { return byKey(a.key, b.key) })
		x := oneOf(s.Rand, of...)
		if what := s.spoiltRecord(x); what != nil {
			put(s.c, d, records{x.key: what})
		}
		l[i].Data = d.Image()
	}
	return l
}

// spoiltRecord is another one in its place; nil: it stays.
func (s *stage) spoiltRecord(x slip) any {
	if s.Intn(6) == 0 {
		return packed(s.c, fine(s.c, x.key))[s.Intn(3):]
	}
	switch x.key.Kind {
	case api.KBlock:
		if x.block.Stamp == (api.Stamp{}) {
			return nil
		}
		x.block.Data[s.Intn(s.c.Block)]++
		return x.block
	case api.KBucket:
		if x.bucket.Upto == 0 {
			return nil
		}
		return oneOf(s.Rand, append(spoilt(s.c, x.bucket), api.Bucket{Upto: x.bucket.Upto})...)
	}
	if x.instance.Command.Kind == 0 {
		return decided(create(3, 3, "q"))
	}
	x.instance.Command.Client = 1 + x.instance.Command.Client%api.MaxId
	return x.instance
}
