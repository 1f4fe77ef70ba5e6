package client_test

import (
	"bytes"
	"fmt"
	"iter"
	"runtime"
	"slices"
	"testing"
	"weak"

	"cairn/api"
	"cairn/client"
)

// roomy has the same items, with others in its spare room.
func roomy[T any](list []T, spare T) []T {
	room := append(slices.Clone(list), spare, spare, spare)
	return room[:len(list)]
}

// spoil fills a list, its spare room too.
func spoil[T any](list []T, with T) {
	list = list[:cap(list)]
	for i := range list {
		list[i] = with
	}
}

// all is a list with its spare room, in memory of its own.
func all[T any](list []T) []T { return append([]T(nil), list[:cap(list)]...) }

func spoilPackets(list []api.Packet) {
	for _, p := range list {
		spoil(p.Data, '?')
	}
	spoil(list, api.Packet{Data: []byte("junk")})
}

// copied are packets in memory of their own.
func copied(list []api.Packet) []api.Packet {
	own := slices.Clone(list)
	for i, p := range own {
		own[i].Data = bytes.Clone(p.Data)
	}
	return own
}

// spoiled is a client all of whose answers are spoiled as soon as they are told, and all that is handed to it as soon as it is used.
type spoiled struct {
	*client.Client
	fault string
}

func (s *spoiled) handed(b []byte, use func(own []byte)) {
	own := roomy(b, '!')
	was := all(own)
	use(own)
	if !bytes.Equal(all(own), was) {
		s.fault = "what was handed in is changed"
	}
	spoil(own, '?')
}

func (s *spoiled) Invoke(o api.Op) (list []api.Packet, err api.Errno) {
	s.handed(o.Data, func(own []byte) {
		o.Data = own
		list, err = s.Client.Invoke(o)
	})
	return s.told(list), err
}

func (s *spoiled) Step(data []byte) (list []api.Packet) {
	s.handed(data, func(own []byte) { list = s.Client.Step(own) })
	return s.told(list)
}

func (s *spoiled) Tick() []api.Packet { return s.told(s.Client.Tick()) }

func (s *spoiled) told(list []api.Packet) []api.Packet {
	own := copied(list)
	for i, p := range list { // no two lists of one answer share any memory
		spoil(p.Data, byte(i))
	}
	for i, p := range list {
		if len(p.Data) > 0 && slices.ContainsFunc(all(p.Data), func(b byte) bool { return b != byte(i) }) {
			s.fault = "two packets share their bytes"
		}
	}
	spoilPackets(list)
	return own
}

func (s *spoiled) Done() (api.Result, bool) {
	r, done := s.Client.Done()
	own := r
	own.List, own.Data = slices.Clone(r.List), bytes.Clone(r.Data)
	spoil(r.List, entry("junk", file(7, 7), 7))
	spoil(r.Data, '?')
	return own, done
}

func (s *spoiled) Config() api.Config {
	c := s.Client.Config()
	own := c
	own.Servers = slices.Clone(c.Servers)
	spoil(c.Servers, 77)
	return own
}

// In long rows of whatever comes, one whose answers and whose arguments are spoiled goes on as the chapter's words.
func TestP2Spoiled(t *testing.T) {
	t.Parallel()
	for _, c := range []api.Config{four(), seven(), least()} {
		for seed := range int64(10) {
			r := randomly(1000 + seed)
			mine := c
			mine.Servers = roomy(c.Servers, 78)
			was := all(mine.Servers)
			m := &spoiled{Client: made(t, mine, me)}
			if !slices.Equal(all(mine.Servers), was) {
				t.Fatal("the configuration is changed")
			}
			spoil(mine.Servers, 79)
			p := newPlain(c, me, "")
			for i := range 600 {
				one := r.call(p)
				if fault := one.differs(m, p); fault != "" || m.fault != "" {
					t.Fatalf("call %d: %s%s", i, fault, m.fault)
				}
			}
		}
	}
}

// What was told stays as it was, whatever the client does then.
func TestP2ToldStays(t *testing.T) {
	t.Parallel()
	r, c, p := randomly(7), fresh(t), newPlain(four(), me, "")
	var packets, copies []api.Packet
	var results, own []api.Result
	var seqs []iter.Seq2[api.Key, api.Command]
	var news []string
	for range 1500 {
		one := r.call(p)
		one.on(p)
		list, _ := one.on(c)
		packets, copies = append(packets, list...), append(copies, copied(list)...)
		result, _ := c.Done()
		results = append(results, result)
		result.List, result.Data = slices.Clone(result.List), bytes.Clone(result.Data)
		own = append(own, result)
		if r.Intn(5) == 0 {
			seqs = append(seqs, c.News())
			news = append(news, fmt.Sprint(newsOf(p.News())))
		}
	}
	mustPackets(t, "all", packets, copies)
	for i := range results {
		if !sameResult(results[i], own[i]) {
			t.Fatalf("%+v, not %+v", results[i], own[i])
		}
	}
	for i, s := range seqs {
		if got := fmt.Sprint(newsOf(s)); got != news[i] {
			t.Fatalf("%s, not %s", got, news[i])
		}
	}
}

// Two answers share nothing.
func TestP2TwoAnswers(t *testing.T) {
	c := fresh(t)
	decide(t, c, create("plum"), plum)
	decide(t, c, list(3), ask{2, 3, 2, at(3, 2)})
	want := api.Result{List: []api.Entry{entry("plum", file(5, 1), 0)}, Instance: 2}
	a, _ := c.Done()
	b, _ := c.Done()
	spoil(a.List, entry("junk", file(7, 7), 7))
	a.List = append(a.List[:0], entry("junk", file(7, 7), 7), entry("junk", file(7, 7), 7))
	if !sameResult(b, want) {
		t.Errorf("%+v", b)
	}
	mustReturn(t, c, want)
	decide(t, c, create(nameIn(four(), 3, 0)), ask{3, 5, 3, at(3, 3)})
	if !sameResult(b, want) {
		t.Errorf("%+v", b)
	}
	readIt(t, c, read(file(5, 1), 0), ask{op: 4, round: 7, key: block(file(5, 1), 0)}, stamp(2, 2), "8 bytes.")
	x, _ := c.Done()
	y, _ := c.Done()
	spoil(x.Data, '?')
	if string(y.Data) != "8 bytes." {
		t.Errorf("%q", y.Data)
	}
	one, two := c.Config(), c.Config()
	spoil(one.Servers, 9)
	if !slices.Equal(two.Servers, []int{10, 20, 30}) || !slices.Equal(c.Config().Servers, two.Servers) {
		t.Errorf("%v", two)
	}
}

type heavy struct {
	servers [1 << 12]int
	data    [1 << 14]byte
}

func heavyNew(c api.Config) (*client.Client, weak.Pointer[heavy]) {
	h := new(heavy)
	c.Servers = append(h.servers[:0], c.Servers...)
	m, _ := client.New(c, me)
	return m, weak.Make(h)
}

func heavyWrite(c machine) weak.Pointer[heavy] {
	h := new(heavy)
	c.Invoke(write(file(5, 1), 0, "")) // refused
	o := write(file(5, 1), 0, "")
	o.Data = append(h.data[:0], "8 bytes."...)
	c.Invoke(o)
	return weak.Make(h)
}

func heavyStep(t testing.TB, c machine, m api.Msg) weak.Pointer[heavy] {
	h := new(heavy)
	c.Step(append(h.data[:0], encoded(t, four(), m)...))
	return weak.Make(h)
}

// Of what is handed in nothing is kept, not even to be held without use.
func TestP2NothingIsHeld(t *testing.T) {
	c, ofServers := heavyNew(four())
	k := block(file(5, 1), 0)
	a, group := ask{op: 1, round: 1, key: k}, groupOf(four(), k)
	held := []weak.Pointer[heavy]{ofServers, heavyWrite(c), heavyStep(t, c, a.value(group[0], stamp(2, 2), "ahead of"))}
	runtime.GC()
	runtime.GC()
	for i, h := range held {
		if h.Value() != nil {
			t.Errorf("what was handed in is held: number %d", i)
		}
	}
	mustStep(t, c, a.value(group[1], stamp(1, 1), "long ago"), a.second().puts(stamp(3, me), "8 bytes.", group...)...)
	runtime.KeepAlive(c)
}

// P3: the same calls in the same order answer the same.
func TestP3Same(t *testing.T) {
	t.Parallel()
	r, p := randomly(3), newPlain(seven(), me, "")
	a, b := made(t, seven(), me), made(t, seven(), me)
	for range 3000 {
		one := r.call(p)
		one.on(p)
		if fault := one.differs(a, b); fault != "" {
			t.Fatal(fault)
		}
	}
}
