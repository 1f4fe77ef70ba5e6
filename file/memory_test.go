package file_test

import (
	"bytes"
	"fmt"
	"runtime"
	"slices"
	"testing"
	"weak"

	"cairn/api"
	"cairn/file"
)

// roomy has the same items, with others in its spare room.
func roomy[T any](list []T, spare T) []T {
	room := append(slices.Clone(list), spare, spare, spare)
	return room[:len(list)]
}

// spoil fills a list, its spare room too.
func spoil[T any](list []T, with T) {
	list = list[:cap(list)]
	for i := range list {
		list[i] = with
	}
}

// all is a list with its spare room, in memory of its own.
func all[T any](list []T) []T { return append([]T(nil), list[:cap(list)]...) }

var junk = entry("junk", fileOf(3, 3), 3)

// ownResult is one in memory of its own; the other one is spoiled.
func ownResult(r api.Result) api.Result {
	own := r
	own.List, own.Data = slices.Clone(r.List), bytes.Clone(r.Data)
	spoil(r.List, junk)
	spoil(r.Data, '?')
	return own
}

// handed hands a list in that has something in its spare room, and spoils it then; it tells whether it was changed.
func handed(b []byte, use func(own []byte)) bool {
	own := roomy(b, '!')
	was := all(own)
	use(own)
	changed := !bytes.Equal(all(own), was)
	spoil(own, '?')
	return changed
}

// spoiled is a user all of whose answers are spoiled as soon as they are told, and all that is handed to it as soon as it is used.
type spoiled struct {
	*file.User
	fault string
}

func (s *spoiled) Invoke(o api.Op) (list []api.Packet, err api.Errno) {
	if handed(o.Data, func(own []byte) {
		o.Data = own
		list, err = s.User.Invoke(o)
	}) {
		s.fault = "what was handed to Invoke is changed"
	}
	return s.told(list), err
}

func (s *spoiled) Step(data []byte) (list []api.Packet) {
	if handed(data, func(own []byte) { list = s.User.Step(own) }) {
		s.fault = "what was handed to Step is changed"
	}
	return s.told(list)
}

func (s *spoiled) Tick() []api.Packet { return s.told(s.User.Tick()) }

func (s *spoiled) Done() (api.Result, bool) {
	r, done := s.User.Done()
	return ownResult(r), done
}

func (s *spoiled) told(list []api.Packet) []api.Packet {
	own := slices.Clone(list)
	for i, p := range list {
		own[i].Data = bytes.Clone(p.Data)
	}
	for i, p := range list { // no two lists of one answer share any memory
		spoil(p.Data, byte(i))
	}
	for i, p := range list {
		if len(p.Data) > 0 && slices.ContainsFunc(all(p.Data), func(b byte) bool { return b != byte(i) }) {
			s.fault = "two packets share their bytes"
		}
	}
	spoil(list, api.Packet{Data: []byte("junk")})
	return own
}

// ownLine is a line in memory of its own; the other one is spoiled.
func ownLine(l api.Line) api.Line {
	own := l
	own.Op.Data = bytes.Clone(l.Op.Data)
	spoil(l.Op.Data, '?')
	own.Result = ownResult(l.Result)
	return own
}

// In plays one whose answers, lines and arguments are spoiled goes on as the chapter's words.
func TestP2Spoiled(t *testing.T) {
	t.Parallel()
	for _, c := range []api.Config{small(), wide()} {
		for seed := range int64(4) {
			s := hallOf(t, c, 8000).twins(t, me, "")
			m := &spoiled{User: file.New(s.client, func(l api.Line) { s.lines = append(s.lines, ownLine(l)) })}
			s.twin().machine = m
			if fault := inTurns(randomly(seed), []*seat{s}, 150, nil, newStore(c, ""), rough, map[string]int{}); fault != "" || m.fault != "" {
				t.Fatalf("seed %d: %s%s", seed, fault, m.fault)
			}
		}
	}
}

// spoiledStore is a Model that is treated likewise.
type spoiledStore struct {
	*file.Model
	fault string
}

func (s *spoiledStore) Do(client, number int, o api.Op) (r api.Result) {
	if handed(o.Data, func(own []byte) {
		o.Data = own
		r = s.Model.Do(client, number, o)
	}) {
		s.fault = "what was handed to Do is changed"
	}
	return ownResult(r)
}

func TestP2SpoiledModel(t *testing.T) {
	t.Parallel()
	for _, c := range []api.Config{small(), wide(), least()} {
		for seed := range int64(10) {
			mine := c
			mine.Servers = roomy(c.Servers, 78)
			was := all(mine.Servers)
			m := &spoiledStore{Model: model(t, mine)}
			if !slices.Equal(all(mine.Servers), was) {
				t.Fatal("the configuration is changed")
			}
			spoil(mine.Servers, 79)
			if fault := alike(randomly(seed), m, newStore(c, ""), 600, map[string]int{}); fault != "" || m.fault != "" {
				t.Fatalf("seed %d: %s%s", seed, fault, m.fault)
			}
		}
	}
}

// What was told stays as it was, whatever the user does then: packets, lines, results.
func TestP2ToldStays(t *testing.T) {
	t.Parallel()
	r, s, known := randomly(7), hallOf(t, small(), 8000).seat(t, me), newStore(small(), "")
	var packets, copies []api.Packet
	var lines []api.Line
	var results, own []api.Result
	s.machine = file.New(s.client, func(l api.Line) {
		s.lines = append(s.lines, l)
		l.Op.Data, l.Result.List, l.Result.Data = bytes.Clone(l.Op.Data), slices.Clone(l.Result.List), bytes.Clone(l.Result.Data)
		lines = append(lines, l)
	})
	for i := range 200 {
		o := r.op(known)
		known.Do(me, 1+100*i, o)
		way, err := s.Invoke(o)
		for ; err == api.OK && len(way) > 0; way = way[1:] {
			more := s.step(way[0])
			packets = append(packets, more...)
			for _, p := range more {
				p.Data = bytes.Clone(p.Data)
				copies = append(copies, p)
			}
			way = append(way, more...)
		}
		result, _ := s.Done()
		results = append(results, result)
		result.List, result.Data = slices.Clone(result.List), bytes.Clone(result.Data)
		own = append(own, result)
	}
	if !samePackets(packets, copies) || !slices.EqualFunc(results, own, sameResult) {
		t.Error("what was told has changed")
	}
	mustLines(t, s.lines, lines...)
}

// Two answers share nothing, and no answer shares with a line.
func TestP2TwoAnswers(t *testing.T) {
	for _, o := range []api.Op{readAt("oar", 0, 6), read(oar, 0), list(bucketOf(small(), lookup("oar")))} {
		s := withOar(t)
		want := s.run(t, o)
		if len(want.Data)+len(want.List) == 0 {
			t.Fatalf("%+v: %+v", o, want)
		}
		text := fmt.Sprint(want)
		a, _ := s.Done()
		ownResult(a)
		for i := range s.lines {
			s.lines[i] = ownLine(s.lines[i])
		}
		lines := fmt.Sprint(s.lines[len(s.lines)-2:])
		b, _ := s.Done()
		if fmt.Sprint(b) != text || fmt.Sprint(want) != text {
			t.Errorf("%+v: %+v, %+v, not %s", o, b, want, text)
		}
		ownResult(want)
		ownResult(b)
		if fmt.Sprint(s.lines[len(s.lines)-2:]) != lines {
			t.Errorf("%+v: lines %+v", o, s.lines[len(s.lines)-2:])
		}
		s.run(t, writeAt("oar", 0, 9, 9, 9, 9, 9, 9))
		if r := s.run(t, readAt("oar", 0, 6)); !bytes.Equal(r.Data, []byte{9, 9, 9, 9, 9, 9}) {
			t.Errorf("%+v", r)
		}
	}
	m := modelWithOar(t)
	for _, o := range []api.Op{readAt("oar", 0, 6), read(oar, 0), read(oar, 7), list(bucketOf(small(), lookup("oar")))} {
		want := fmt.Sprint(m.Do(me, 10, o))
		ownResult(m.Do(me, 10, o))
		if got := fmt.Sprint(m.Do(me, 10, o)); got != want {
			t.Errorf("%+v: %s, not %s", o, got, want)
		}
	}
}

type heavy struct {
	servers [1 << 12]int
	data    [1 << 14]byte
}

func heavyModel(c api.Config) (*file.Model, weak.Pointer[heavy]) {
	h := new(heavy)
	c.Servers = append(h.servers[:0], c.Servers...)
	m, _ := file.NewModel(c)
	return m, weak.Make(h)
}

func heavyDo(m *file.Model, o api.Op) weak.Pointer[heavy] {
	h := new(heavy)
	o.Data = append(h.data[:0], o.Data...)
	m.Do(me, 1, o)
	return weak.Make(h)
}

func heavyInvoke(s *seat, o api.Op) ([]api.Packet, weak.Pointer[heavy]) {
	h := new(heavy)
	o.Data = append(h.data[:0], o.Data...)
	way, _ := s.Invoke(o)
	return way, weak.Make(h)
}

func heavyStep(s *seat, p api.Packet) ([]api.Packet, weak.Pointer[heavy]) {
	h := new(heavy)
	more := s.Step(append(h.data[:0], p.Data...))
	return more, weak.Make(h)
}

// Of what is handed in nothing is kept, not even to be held without use: of operations that are pending, too.
func TestP2NothingIsHeld(t *testing.T) {
	m, ofServers := heavyModel(small())
	held := []weak.Pointer[heavy]{ofServers, heavyDo(m, create("oar")), heavyDo(m, writeAt("oar", 0, 1, 2, 3, 4, 5)), heavyDo(m, write(oar, 1, 1, 2, 3, 4)), heavyDo(m, copyTo("oar", "peg"))}
	var seats []*seat
	for _, o := range []api.Op{writeAt("oar", 1, 7, 7, 7), write(oar, 0, 1, 2, 3, 4), readAt("oar", 0, 9), copyTo("oar", "peg")} {
		s := withOar(t)
		seats = append(seats, s)
		way, h := heavyInvoke(s, o)
		held = append(held, h)
		for _, p := range s.answers(way)[:2] {
			_, h := heavyStep(s, p)
			held = append(held, h)
		}
		mustPend(t, s)
	}
	runtime.GC()
	runtime.GC()
	for i, h := range held {
		if h.Value() != nil {
			t.Errorf("what was handed in is held: number %d", i)
		}
	}
	for _, s := range seats {
		for s.Pending() {
			s.goOn(s.Tick())
		}
	}
	if r := seats[0].run(t, readAt("oar", 0, 6)); !bytes.Equal(r.Data, []byte{1, 7, 7, 7, 5, 6}) {
		t.Errorf("%+v", r)
	}
	runtime.KeepAlive(m)
}

// P3: the same calls in the same order answer the same.
func TestP3Same(t *testing.T) {
	t.Parallel()
	a, b := hallOf(t, wide(), 8000).twins(t, me, ""), hallOf(t, wide(), 8000).twins(t, me, "")
	for _, s := range []*seat{a, b} {
		if fault := inTurns(randomly(9), []*seat{s}, 200, []store{model(t, wide())}, newStore(wide(), ""), rough, map[string]int{}); fault != "" {
			t.Fatal(fault)
		}
	}
	mustLines(t, a.lines, b.lines...)
	if a.holds() != b.holds() || told(a) != told(b) {
		t.Error("two runs are not alike")
	}
}
