package server_test

import (
	"bytes"
	"fmt"
	"math/rand"
	"runtime"
	"slices"
	"testing"
	"weak"

	"cairn/api"
	"cairn/server"
)

// roomy has the same items, with others in its spare room.
func roomy[T any](list []T, spare T) []T {
	room := append(slices.Clone(list), spare, spare, spare)
	return room[:len(list)]
}

// spoil fills a list, its spare room too.
func spoil[T any](list []T, with T) {
	list = list[:cap(list)]
	for i := range list {
		list[i] = with
	}
}

// all is a list with its spare room, in memory of its own.
func all[T any](list []T) []T { return append([]T(nil), list[:cap(list)]...) }

func spoilPackets(list []api.Packet) {
	for _, p := range list {
		spoil(p.Data, '?')
	}
	spoil(list, api.Packet{Data: []byte("junk")})
}

func spoilBucket(b api.Bucket) {
	spoil(b.Entries, api.Entry{Name: "junk", Size: 77})
	spoil(b.Lasts, api.Last{Client: 77, Op: 77})
}

// spoiled is a server whose answers are spoiled as soon as they are told, and all that is handed to it as soon as it is used.
type spoiled struct{ *server.Server }

func (s spoiled) Step(data []byte) []api.Packet {
	mine := roomy(data, '!')
	was := all(mine)
	list := s.Server.Step(mine)
	if !bytes.Equal(all(mine), was) {
		panic("what was handed in is changed")
	}
	spoil(mine, '?')
	told := copied(list)
	spoilPackets(list)
	return told
}

func (s spoiled) Mend(other int, k api.Key) ([]api.Packet, api.Errno) {
	list, err := s.Server.Mend(other, k)
	told := copied(list)
	spoilPackets(list)
	return told, err
}

func (s spoiled) Block(k api.Key) api.Block {
	b := s.Server.Block(k)
	told := api.Block{Stamp: b.Stamp, Data: bytes.Clone(b.Data)}
	spoil(b.Data, '?')
	return told
}

func (s spoiled) Bucket(number int) api.Bucket {
	b := s.Server.Bucket(number)
	told := api.Bucket{Upto: b.Upto, Entries: slices.Clone(b.Entries), Lasts: slices.Clone(b.Lasts)}
	spoilBucket(b)
	return told
}

func copied(list []api.Packet) []api.Packet {
	var copies []api.Packet
	for _, p := range list {
		p.Data = bytes.Clone(p.Data)
		copies = append(copies, p)
	}
	return copies
}

// Whatever becomes of what was handed in and told, the server goes on as if nothing were.
func TestP2Spoiled(t *testing.T) {
	t.Parallel()
	for seed := range 30 {
		r := rand.New(rand.NewSource(int64(seed)))
		c := three()
		servers := roomy(c.Servers, 77)
		handed := c
		handed.Servers = servers
		d := newDisk(t, 200)
		plainly := newPlain(c, me, newShelf(200), "")
		start := func() spoiled {
			copy(servers, c.Servers)
			s, err := server.New(handed, me, d)
			if err != api.OK {
				t.Fatal(err)
			}
			if !slices.Equal(all(servers), []int{1, 2, 3, 77, 77, 77}[:cap(servers)]) {
				t.Fatalf("the configuration is changed: %v", all(servers))
			}
			spoil(servers[:3:3], 200)
			return spoiled{s}
		}
		s := start()
		for range 60 {
			x := anyCall(t, r, c)
			if x.do == nil {
				s, plainly = start(), newPlain(c, me, plainly.shelf, "")
				continue
			}
			if got, want := x.do(s), x.do(plainly); got != want {
				t.Fatalf("%s: answered\n%s\nnot\n%s", x.name, got, want)
			}
			if got, want := view(s, c), view(plainly, c); got != want {
				t.Fatalf("%s: it holds\n%s\nnot\n%s", x.name, got, want)
			}
		}
	}
}

// Most leaves a configuration as it is.
func TestP2Most(t *testing.T) {
	c := seven()
	c.Servers = roomy(c.Servers, 77)
	was := all(c.Servers)
	server.Most(c)
	if !slices.Equal(all(c.Servers), was) {
		t.Errorf("%v", all(c.Servers))
	}
}

// No two lists of one answer, and no two answers, share memory.
func TestP2NoTwoAnswersShare(t *testing.T) {
	s, _ := fresh(t, 80)
	mustDo(t, s, three(), put(block(0), stamp(1, 1), "abc"), haveBucket(brought(3), false))
	a, b := s.Block(block(0)), s.Block(block(0))
	spoil(a.Data, '?')
	if string(b.Data) != "abc" {
		t.Error("two blocks share memory")
	}
	one, two := s.Bucket(number), s.Bucket(number)
	spoilBucket(one)
	if !same(two, brought(3)) {
		t.Error("two buckets share memory")
	}
	m := encoded(t, three(), query(block(0)))
	first, second := s.Step(m), s.Step(m)
	was := copied(second)
	spoilPackets(first)
	if !same(second, was) {
		t.Error("two answers share memory")
	}
}

// The keys that a sequence goes over are its own.
func TestP2Keys(t *testing.T) {
	s, _ := row(t, "DDD")
	keys := s.Keys()
	list := slices.Collect(keys)
	spoil(list, api.Key{Kind: 9})
	if got := slices.Collect(keys); !slices.Equal(got, []api.Key{at(1), at(2), at(3)}) {
		t.Errorf("%v", got)
	}
}

// Nothing that is handed in is held on to, but the disk.
func TestP2NothingIsKept(t *testing.T) {
	d := newDisk(t, 400)
	servers := make([]int, 3, 1000)
	copy(servers, []int{1, 2, 3})
	c := three()
	c.Servers = servers
	gone := []weak.Pointer[int]{weak.Make(&servers[0])}
	s, err := server.New(c, me, d)
	if err != api.OK {
		t.Fatal(err)
	}
	servers, c.Servers = nil, nil
	var data []weak.Pointer[byte]
	for _, m := range []api.Msg{put(block(0), stamp(1, 1), "abc"), query(block(0)), accept(at(1), stamp(1, 1), other(1)), learned(at(2), command(2)), have(3, true, commands(3, 9)...), haveBucket(brought(3), false), haveBlock(block(1), stamp(1, 1), "abc"), ask(dir, 1)} {
		b := encoded(t, three(), m)
		data = append(data, weak.Make(&b[0]))
		s.Step(b)
	}
	runtime.GC()
	runtime.GC()
	for i, p := range gone {
		if p.Value() != nil {
			t.Errorf("list %d of the configuration is held", i)
		}
	}
	for i, p := range data {
		if p.Value() != nil {
			t.Errorf("the bytes of message %d are held", i)
		}
	}
	if s.Block(block(0)).Stamp != stamp(1, 1) {
		t.Error("it has forgotten")
	}
	runtime.KeepAlive(d)
}

// The same calls in the same order are answered the same, whatever other servers do between.
func TestP3SameAgain(t *testing.T) {
	t.Parallel()
	c := three()
	run := func(seed int64, between func()) string {
		r := rand.New(rand.NewSource(seed))
		d := newDisk(t, 100)
		s := started(t, c, d)
		var told []string
		for range 80 {
			between()
			if x := anyCall(t, r, c); x.do == nil {
				s = started(t, c, d)
			} else {
				told = append(told, x.do(s))
			}
			told = append(told, view(s, c))
		}
		image := d.Image()
		return fmt.Sprint(told, image, d.Counts())
	}
	for seed := range int64(10) {
		alone := run(seed, func() {})
		if run(seed, func() {}) != alone {
			t.Fatal("the same calls are answered otherwise")
		}
		r := rand.New(rand.NewSource(seed + 100))
		x := newPair(t, c, 100)
		if run(seed, func() { x.call(t, anyCall(t, r, c)) }) != alone {
			t.Fatal("another server's calls are seen")
		}
	}
}

// Two servers in turns, of one configuration and of two, each with its own disk.
func TestP7InTurns(t *testing.T) {
	t.Parallel()
	r := rand.New(rand.NewSource(7))
	for range 20 {
		x, y, z := newPair(t, three(), 60), newPair(t, three(), 60), newPair(t, seven(), 100)
		for range 30 {
			x.call(t, anyCall(t, r, x.c))
			y.call(t, anyCall(t, r, y.c))
			z.call(t, anyCall(t, r, z.c))
		}
	}
}
