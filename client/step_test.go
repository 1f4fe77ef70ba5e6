package client_test

import (
	"bytes"
	"testing"

	"cairn/api"
	"cairn/wire"
)

// stands is a client in some state, with what it asks there.
type stands struct {
	name string
	c    machine
	ask  ask
	kind int // of the message that it asks with
}

// pendings are clients in each phase of a command, a read and a write.
func pendings(t testing.TB) []stands {
	t.Helper()
	k := block(file(7, 12), 3)
	a, b := plum, ask{op: 1, round: 1, key: k}
	begun := func(o api.Op, steps ...api.Msg) machine {
		c := fresh(t)
		c.Invoke(o)
		for _, m := range steps {
			c.Step(encoded(t, four(), m))
		}
		return c
	}
	return []stands{
		{"prepare", begun(create("plum")), a, api.MPrepare},
		{"accept", begun(create("plum"), a.promise(20), a.promise(10)), a.second(), api.MAccept},
		{"read", begun(read(file(7, 12), 3)), b, api.MQuery},
		{"read, put", begun(read(file(7, 12), 3), b.value(20, stamp(1, 1), "8 bytes."), b.value(10, stamp(1, 2), "8 bytes.")), b.second(), api.MPut},
		{"write", begun(write(file(7, 12), 3, "8 bytes.")), b, api.MQuery},
		{"write, put", begun(write(file(7, 12), 3, "8 bytes."), b.value(20, stamp(1, 1), "8 bytes."), b.value(10, stamp(1, 2), "8 bytes.")), b.second(), api.MPut},
	}
}

func (s stands) yes(from int) api.Msg {
	m := s.ask.yes(s.kind, from, four())
	m.Stamp = map[int]api.Stamp{api.MQuery: stamp(0, 0), api.MPrepare: stamp(1, me), api.MAccept: stamp(1, me)}[s.kind]
	return m
}

// mustStand: it still asks all of the group what it asked.
func (s stands) mustStand(t *testing.T, what string) {
	t.Helper()
	if l := s.c.Tick(); len(l) != 3 || l[0].To != node(20) || !s.c.Pending() {
		t.Fatalf("%s, behind %s: Tick sends %v", s.name, what, l)
	}
}

// Bytes that are no message change nothing: each front of one, each byte turned, one with a byte more.
func TestP1404NoMessage(t *testing.T) {
	for _, s := range pendings(t) {
		right := encoded(t, four(), s.yes(20))
		var wrong [][]byte
		for n := range right {
			wrong = append(wrong, right[:n])
			for bit := range 8 {
				b := bytes.Clone(right)
				b[n] ^= 1 << bit
				wrong = append(wrong, b)
			}
		}
		body, _ := wire.Open(right)
		wrong = append(wrong, nil, []byte{}, append(bytes.Clone(right), 0), wire.Seal(nil), wire.Seal(append(bytes.Clone(body), 0)), wire.Seal(body[1:]), make([]byte, 10000), body)
		was := told(s.c)
		for _, b := range wrong {
			if l := s.c.Step(b); len(l) > 0 || told(s.c) != was {
				t.Fatalf("%s: Step(%v): %v", s.name, b, l)
			}
		}
		s.mustStand(t, "no message")
	}
}

// Messages that are for somebody else, or for another time, change nothing.
func TestP1404NotForIt(t *testing.T) {
	for _, s := range pendings(t) {
		right := s.yes(20)
		for name, change := range map[string]func(m *api.Msg){
			"to client 4": func(m *api.Msg) { m.To.Id = 4 }, "to client 255": func(m *api.Msg) { m.To.Id = 255 }, "to client 10": func(m *api.Msg) { m.To.Id = 10 },
			"an Op more": func(m *api.Msg) { m.Op++ }, "the greatest Op": func(m *api.Msg) { m.Op = api.MaxNum },
			"a Round more": func(m *api.Msg) { m.Round++ }, "the greatest Round": func(m *api.Msg) { m.Round = api.MaxNum },
			"another Key": func(m *api.Msg) { m.Key.B++ }, "another bucket, another file": func(m *api.Msg) { m.Key.A-- },
		} {
			m := right
			change(&m)
			mustPassOver(t, s.c, m)
			s.mustStand(t, name)
		}
		// Of another kind of key, to a server, between servers.
		other := plum
		if s.ask.key.Kind == api.KInstance {
			other.key = block(file(7, 12), 3)
			mustPassOver(t, s.c, other.value(20, stamp(1, 1), "8 bytes."), other.ack(20))
		} else {
			mustPassOver(t, s.c, other.promise(20), other.accepted(20), other.known(20, another), other.nack(20, 9, 9), other.trimmed(20, bucketUpto(1, 1)))
		}
		for _, m := range s.ask.queriesOrPrepares() {
			mustPassOver(t, s.c, m)
		}
		mustPassOver(t, s.c, api.Msg{Kind: api.MAsk, From: node(20), To: node(10), Key: block(file(7, 12), 3)}, api.Msg{Kind: api.MHave, From: node(20), To: node(10), Key: block(file(7, 12), 3)})
		s.mustStand(t, "all of these")
	}
	// A server of the configuration that is none of the group.
	c := made(t, seven(), me)
	k := block(file(7, 12), 3)
	group := groupOf(seven(), k)
	a := ask{op: 1, round: 1, key: k}
	mustInvoke(t, c, read(file(7, 12), 3), a.queries(group...)...)
	for _, id := range seven().Servers {
		if id != group[0] && id != group[1] && id != group[2] {
			mustPassOver(t, c, a.value(id, stamp(0, 0), "\x00\x00\x00"))
		}
	}
	mustTick(t, c, a.queries(group...)...)
}

// queriesOrPrepares are what it asks itself, as if that came to it.
func (a ask) queriesOrPrepares() []api.Msg {
	if a.key.Kind == api.KBlock {
		return append(a.queries(20, 30, 10), a.puts(stamp(1, me), "8 bytes.", 20, 30, 10)...)
	}
	a.ballot = 1
	return append(a.prepares(20, 30, 10), a.accepts(plumCommand, 20, 30, 10)...)
}

// An answer counts once, in any order; one to the round ahead, and of an operation that has returned, not at all.
func TestP1404DoubledLateOutOfOrder(t *testing.T) {
	c := fresh(t)
	group := []int{20, 30, 10}
	mustInvoke(t, c, create("plum"), plum.prepares(group...)...)
	mustPassOver(t, c, plum.promise(10), plum.promise(10), plum.promise(10), plum.second().accepted(20), plum.second().accepted(30))
	mustTick(t, c, plum.prepares(20, 30)...)
	mustTick(t, c, plum.prepares(20, 30)...)
	mustStep(t, c, plum.promise(20), plum.second().accepts(plumCommand, group...)...)
	mustPassOver(t, c, plum.promise(30), plum.promise(20), plum.second().accepted(30), plum.second().accepted(30))
	mustTick(t, c, plum.second().accepts(plumCommand, 20, 10)...)
	mustStep(t, c, plum.second().accepted(10), plum.second().learned(plumCommand, group...)...)
	mustReturn(t, c, api.Result{Entry: entry("plum", file(5, 1), 0), Instance: 1})
	late := []api.Msg{plum.promise(30), plum.second().accepted(20), plum.second().accepted(30), plum.second().known(20, plumCommand), plum.second().known(20, another), plum.second().trimmed(20, bucketUpto(7, 1)), plum.second().nack(30, 900, 9)}
	mustPassOver(t, c, late...)
	k := block(file(5, 1), 0)
	a := ask{op: 2, round: 3, key: k}
	of := groupOf(four(), k)
	mustInvoke(t, c, write(file(5, 1), 0, "8 bytes."), a.queries(of...)...)
	mustPassOver(t, c, late...)
	mustPassOver(t, c, a.second().ack(10), a.second().ack(20), a.value(10, stamp(2, 2), "ahead of"), a.value(10, stamp(9, 9), "not told"))
	mustStep(t, c, a.value(30, stamp(1, 1), "long ago"), a.second().puts(stamp(3, me), "8 bytes.", of...)...)
	mustPassOver(t, c, a.value(20, stamp(7, 7), "too late"), a.second().ack(10), a.second().ack(10))
	mustStep(t, c, a.second().ack(20))
	mustReturn(t, c, api.Result{Stamp: stamp(3, me)})
	late = append(late, a.value(20, stamp(7, 7), "too late"), a.second().ack(30), a.second().ack(20))
	mustPassOver(t, c, late...)
	// The next command of that bucket is asked in the next instance, and what came late has moved no ballot.
	b := ask{op: 3, round: 5, ballot: 2, key: at(3, 2)}
	mustInvoke(t, c, lookup("plum"), b.prepares(group...)...)
	mustPassOver(t, c, late...)
	mustTick(t, c, b.prepares(group...)...)
}

// With nothing pending: ahead of the first operation, and behind each.
func TestP1404NothingPending(t *testing.T) {
	for _, s := range pendings(t) {
		idle := fresh(t)
		for range 2 {
			mustPassOver(t, idle, s.yes(20), s.yes(10), s.yes(30))
			mustTick(t, idle)
		}
		mustBeNew(t, idle, four(), me)
		for _, from := range []int{20, 10, 30} {
			s.c.Step(encoded(t, four(), s.yes(from)))
		}
		for s.c.Pending() { // the second phase
			s.ask, s.kind = s.ask.second(), map[int]int{api.MPrepare: api.MAccept, api.MQuery: api.MPut}[s.kind]
			for _, from := range []int{20, 10, 30} {
				s.c.Step(encoded(t, four(), s.yes(from)))
			}
		}
		mustPassOver(t, s.c, s.yes(30), s.yes(20), s.yes(10))
		mustTick(t, s.c)
	}
}

// Where a command finds others' ahead of its own, one call sends the last word on that instance and the first on the next one.
func TestP1404TheNextInstance(t *testing.T) {
	w := newWatch(fresh(t))
	group := []int{20, 30, 10}
	mustInvoke(t, w, create("plum"), plum.prepares(group...)...)
	mustPassOver(t, w, plum.promise(20))
	mustStep(t, w, plum.holding(30, stamp(1, 3), another), plum.second().accepts(another, group...)...)
	mustPassOver(t, w, plum.second().accepted(20))
	next := ask{op: 1, round: 3, ballot: 2, key: at(3, 2)}
	mustStep(t, w, plum.second().accepted(30), append(plum.second().learned(another, group...), next.prepares(group...)...)...)
	mustPend(t, w)
	behind := ask{op: 1, round: 4, ballot: 3, key: at(3, 8)}
	mustStep(t, w, next.trimmed(10, bucketUpto(7, 0)), behind.prepares(group...)...)
	mustPend(t, w)
	mustStep(t, w, behind.trimmed(10, bucketUpto(9, 1)))
	mustReturn(t, w, api.Result{Err: api.ErrExists, Entry: entry("plum", file(9, 1), 3), Instance: 9})
	mustNews(t, w, item{at(3, 1), another}) // what was trimmed is no news
	mustBeWatched(t, w)
}
