package world_test

import (
	"math"
	"reflect"
	"testing"

	"cairn/api"
	"cairn/world"
)

// lived is a world in which something of every kind can happen: packets are under way to and from all, server 10 is down, client 6 has fallen.
func lived(t testing.TB) *world.World {
	t.Helper()
	w := made(t, small(), 100, 5, 6, 30)
	run(t, w, 5, create("plum"))
	deliverAll(t, w)
	do(t, w, felled(10)...)
	do(t, w, invoke(5, create("oar")), invoke(6, lookup("plum")), invoke(30, read(fileOf(5, 1), 0)), stop(6), deliver(user(30), 1))
	return w
}

// ofEachKind has an event of each kind that is answered OK in the world above.
func ofEachKind(w scene) []api.Event {
	p := w.Under()[0]
	return []api.Event{
		invoke(5, create("pear")), deliver(p.From, p.Count), lose(p.From, p.Count), double(p.From, p.Count), tick(5), fall(20, 2), tear(20, 3, 4),
		start(10), stop(5), trim(20, 3, 1), mend(20, 30, bucketKey(3)), quota(20, 4), junk(20, 1, 2, 3),
	}
}

// mustRefuse: the event is answered so, and nothing has changed.
func mustRefuse(t testing.TB, w, twin scene, e api.Event, want api.Errno) {
	t.Helper()
	if err := w.Do(e); err != want {
		t.Fatalf("%+v: %v, not %v", e, err, want)
	}
	(hall{small(), []int{5, 6, 30}, 100}).mustBeAlike(t, w, twin)
}

func TestP1702NoKind(t *testing.T) {
	t.Parallel()
	w, twin := lived(t), lived(t)
	for _, kind := range []int{0, -1, 14, 15, 100, 257, math.MinInt, math.MaxInt} {
		mustRefuse(t, w, twin, api.Event{Kind: kind}, api.ErrEvent)
		for _, e := range ofEachKind(w) {
			e.Kind = kind
			mustRefuse(t, w, twin, e, api.ErrEvent)
		}
	}
}

// spoils are events with one thing set, by the field of the event that it is in.
func spoils() map[string][]api.Event {
	numbers := func(set func(e *api.Event, n int)) []api.Event {
		var all []api.Event
		for _, n := range []int{1, -1, 20, 5, math.MinInt, math.MaxInt} {
			var e api.Event
			set(&e, n)
			all = append(all, e)
		}
		return all
	}
	with := func(ops ...api.Op) []api.Event {
		var all []api.Event
		for _, o := range ops {
			all = append(all, api.Event{Op: o})
		}
		return all
	}
	return map[string][]api.Event{
		"Server": numbers(func(e *api.Event, n int) { e.Server = n }),
		"Other":  numbers(func(e *api.Event, n int) { e.Other = n }),
		"Client": numbers(func(e *api.Event, n int) { e.Client = n }),
		"N":      numbers(func(e *api.Event, n int) { e.N = n }),
		"Torn":   numbers(func(e *api.Event, n int) { e.Torn = n }),
		"Upto":   numbers(func(e *api.Event, n int) { e.Upto = n }),
		"Addr":   {{Addr: api.Addr{Client: true}}, {Addr: api.Addr{Id: 1}}, {Addr: api.Addr{Id: -1}}, {Addr: user(5)}},
		"Key":    {{Key: api.Key{Kind: 1}}, {Key: api.Key{A: 1}}, {Key: api.Key{B: -1}}, {Key: api.Key{C: 1}}},
		"Op": with(api.Op{Kind: 1}, api.Op{Kind: -1}, api.Op{Name: "a"}, api.Op{Other: "a"}, api.Op{File: fileOf(1, 0)}, api.Op{File: fileOf(0, 1)},
			api.Op{New: fileOf(1, 0)}, api.Op{New: fileOf(0, -1)}, api.Op{At: 1}, api.Op{At: -1}, api.Op{N: 1}, api.Op{N: -1}, api.Op{Data: []byte{0}}),
		"Data": {{Data: []byte{0}}, {Data: []byte{1, 2}}},
	}
}

// Each thing that a row does not name, where it is not zero; and where it is an empty list, which is none.
func TestP1702StrayFields(t *testing.T) {
	t.Parallel()
	w, twin := lived(t), lived(t)
	for _, e := range ofEachKind(w) {
		row := map[string]bool{"Kind": true}
		for _, name := range rowNames(e.Kind) {
			row[name] = true
		}
		for name, all := range spoils() {
			if row[name] {
				continue
			}
			for _, spoil := range all {
				spoilt := e
				reflect.ValueOf(&spoilt).Elem().FieldByName(name).Set(reflect.ValueOf(spoil).FieldByName(name))
				mustRefuse(t, w, twin, spoilt, api.ErrEvent)
			}
		}
	}
}

// Of each row all that it names may stand there, and an empty list where it names none.
func TestP1702EmptyLists(t *testing.T) {
	t.Parallel()
	for _, e := range ofEachKind(lived(t)) {
		a, b := lived(t), lived(t)
		if e.Kind == api.EInvoke { // nothing is pending there
			e.Client = 30
			loseAll(t, a)
			loseAll(t, b)
			a.Fair(30, 9)
			b.Fair(30, 9)
		}
		do(t, a, e)
		if len(e.Data) == 0 {
			e.Data = []byte{}
		}
		if len(e.Op.Data) == 0 {
			e.Op.Data = make([]byte, 0, 5)
		}
		do(t, b, e)
		(hall{small(), []int{5, 6, 30}, 100}).mustBeAlike(t, a, b)
	}
}

func TestP1702BelowZero(t *testing.T) {
	t.Parallel()
	w, twin := lived(t), lived(t)
	for _, n := range []int{-1, -2, math.MinInt} {
		for _, e := range []api.Event{
			deliver(user(5), n), lose(user(5), n), double(user(5), n), fall(20, n), fall(10, n), tear(20, n, 0), tear(20, 0, n), tear(10, n, n), trim(20, n, 0), trim(20, 3, n), trim(10, 3, n), quota(20, n), quota(10, n),
		} {
			mustRefuse(t, w, twin, e, api.ErrEvent)
		}
	}
}

func TestP1702NoSuchServerOrClient(t *testing.T) {
	t.Parallel()
	w, twin := lived(t), lived(t)
	for _, id := range []int{0, 1, 5, 6, 7, 21, 255, 256, -1, -20, math.MinInt, math.MaxInt} {
		for _, e := range []api.Event{fall(id, 0), tear(id, 0, 0), start(id), trim(id, 3, 0), trim(id, 9, 0), mend(id, 20, bucketKey(3)), mend(id, id, api.Key{}), quota(id, 0), junk(id, 1), junk(id, query(t, small(), 20)...)} {
			mustRefuse(t, w, twin, e, api.ErrAddr)
		}
	}
	for _, id := range []int{0, 1, 10, 20, 7, 255, 256, -5, math.MinInt, math.MaxInt} {
		for _, e := range []api.Event{invoke(id, create("a")), invoke(id, api.Op{}), tick(id), stop(id)} {
			mustRefuse(t, w, twin, e, api.ErrAddr)
		}
	}
}

// ErrEvent, then ErrAddr, then what the row says.
func TestP1702WhichComesFirst(t *testing.T) {
	t.Parallel()
	w, twin := lived(t), lived(t)
	message := query(t, small(), 20)
	for _, x := range []struct {
		e    api.Event
		want api.Errno
	}{
		{fall(77, -1), api.ErrEvent}, {fall(77, 0), api.ErrAddr}, {api.Event{Kind: api.ETick, Client: 77, Upto: -1}, api.ErrEvent},
		{api.Event{Kind: api.EInvoke, Client: 77, Op: create("a"), N: 1}, api.ErrEvent}, {invoke(77, api.Op{Kind: 99}), api.ErrAddr},
		{invoke(5, api.Op{Kind: 99}), api.ErrBusy}, {invoke(6, create("a")), api.ErrFallen}, {invoke(6, api.Op{}), api.ErrFallen},
		{trim(77, 9, -1), api.ErrEvent}, {trim(77, 9, 0), api.ErrAddr}, {trim(20, 4, 0), api.ErrBucket}, {trim(20, 1<<40, 0), api.ErrBucket},
		{mend(77, 77, api.Key{}), api.ErrAddr}, {mend(20, 77, api.Key{}), api.ErrAddr}, {mend(20, 0, api.Key{}), api.ErrAddr}, {mend(20, 20, bucketKey(3)), api.ErrAddr}, {mend(20, 30, at(3, 1)), api.ErrKey}, {mend(20, 30, api.Key{}), api.ErrKey},
		{mend(20, -30, bucketKey(3)), api.ErrAddr},
		{junk(77, message...), api.ErrAddr}, {junk(20, message...), api.ErrEvent}, {junk(10, message...), api.ErrEvent},
		{api.Event{Kind: api.EJunk, Server: 77, Data: message, N: 1}, api.ErrEvent},
		{deliver(user(77), 1), api.ErrPacket}, {deliver(node(20), 0), api.ErrPacket}, {deliver(api.Addr{}, 0), api.ErrPacket}, {lose(user(77), 1), api.ErrPacket}, {double(node(77), 3), api.ErrPacket}, {deliver(user(77), -1), api.ErrEvent},
	} {
		mustRefuse(t, w, twin, x.e, x.want)
	}
}

// Bytes that are a message are no junk, whoever they are for; all others are.
func TestP1702Junk(t *testing.T) {
	t.Parallel()
	w, twin := lived(t), lived(t)
	c := small()
	for _, server := range c.Servers {
		for _, to := range c.Servers {
			mustRefuse(t, w, twin, junk(server, query(t, c, to)...), api.ErrEvent)
		}
		answer := message(t, c, api.Msg{Kind: api.MAck, From: node(20), To: user(5), Op: 1, Round: 1, Key: block(fileOf(5, 1), 0)})
		mustRefuse(t, w, twin, junk(server, answer...), api.ErrEvent)
		put := api.Msg{Kind: api.MPut, From: user(5), To: node(server), Op: 1, Round: 1, Key: block(fileOf(5, 1), 0), Stamp: api.Stamp{N: 9, Client: 5}, Block: make([]byte, 8)}
		whole := message(t, c, put)
		for i := range whole {
			mustRefuse(t, w, twin, junk(server, whole[:i]...), api.OK)
			changed := append([]byte{}, whole...)
			changed[i] ^= 1
			mustRefuse(t, w, twin, junk(server, changed...), api.OK)
		}
		mustRefuse(t, w, twin, junk(server, append(whole, 0)...), api.OK)
		mustRefuse(t, w, twin, junk(server, whole...), api.ErrEvent)
		mustRefuse(t, w, twin, junk(server), api.OK)
		put.Block = make([]byte, 3) // a message of another configuration
		other := wide()
		other.Servers = c.Servers
		mustRefuse(t, w, twin, junk(server, message(t, other, put)...), api.OK)
	}
}

// Junk is a step: a server that is armed falls at it.
func TestP1702JunkFells(t *testing.T) {
	t.Parallel()
	for n := range 3 {
		w := fresh(t)
		do(t, w, fall(20, n), junk(30, 1), junk(10, 1))
		if !w.Up(10) || !w.Up(20) || !w.Up(30) {
			t.Fatal("one is down that was handed no junk, or was not armed")
		}
		do(t, w, junk(20, 1))
		if w.Up(20) || len(w.Under()) > 0 {
			t.Fatal("it has not fallen")
		}
	}
}

// What each row says, one by one.

func TestP1702Invoke(t *testing.T) {
	t.Parallel()
	w := fresh(t)
	for _, x := range []struct {
		o    api.Op
		want api.Errno
	}{
		{api.Op{}, api.ErrOp}, {create(""), api.ErrName}, {create("a/b"), api.ErrName}, {list(4), api.ErrBucket}, {read(fileOf(0, 1), 0), api.ErrArg}, {read(fileOf(1, 1), -1), api.ErrIndex},
		{write(fileOf(1, 1), 0, 1), api.ErrBlock}, {readAt("a", -1, 0), api.ErrSize}, {api.Op{Kind: 14}, api.ErrOp},
	} {
		if err := w.Do(invoke(5, x.o)); err != x.want || w.Pending(5) || len(w.Under())+len(w.History()) > 0 {
			t.Errorf("%+v: %v, not %v", x.o, err, x.want)
		}
	}
	for i, o := range []api.Op{create("a"), readAt("a", 0, 1), read(fileOf(5, 1), 0)} {
		loseAll(t, w)
		do(t, w, invoke(5, o))
		if err := w.Do(invoke(5, o)); err != api.ErrBusy || !w.Pending(5) || w.Pending(6) || len(w.Under()) != 3 {
			t.Errorf("%d: %v", i, err)
		}
		w.Fair(5, 9)
	}
}

func TestP1702Tick(t *testing.T) {
	t.Parallel()
	w := fresh(t)
	do(t, w, tick(5))
	mustUnder(t, w)
	do(t, w, invoke(5, create("plum")), tick(6))
	mustUnder(t, w, "c5.1", "c5.2", "c5.3")
	do(t, w, deliver(user(5), 2), deliver(node(30), 1), tick(5)) // 30 has answered: it is asked no more
	mustUnder(t, w, "c5.1", "c5.3", "c5.4", "c5.5")
	if l := w.Under(); l[2].To != node(20) || l[3].To != node(10) || !reflect.DeepEqual(l[2].Data, l[0].Data) {
		t.Fatalf("%+v", l)
	}
}

func TestP1702StopIsForEver(t *testing.T) {
	t.Parallel()
	w := fresh(t)
	do(t, w, invoke(5, create("plum")), deliver(user(5), 1), stop(5), stop(5), stop(6))
	mustUnder(t, w, "c5.2", "c5.3", "s20.1")
	lines := len(w.History())
	do(t, w, tick(5), deliver(node(20), 1), deliver(user(5), 2), deliver(node(30), 1))
	mustUnder(t, w, "c5.3")
	if err := w.Do(invoke(6, create("a"))); err != api.ErrFallen || !w.Pending(5) || w.Pending(6) || len(w.History()) != lines {
		t.Fatalf("%v, pending %v, %v", err, w.Pending(5), w.Pending(6))
	}
}

func TestP1702LoseAndDouble(t *testing.T) {
	t.Parallel()
	w := fresh(t)
	do(t, w, invoke(5, create("plum")), double(user(5), 1), double(user(5), 3), double(user(5), 1))
	mustUnder(t, w, "c5.1", "c5.2", "c5.3", "c5.1", "c5.3", "c5.1")
	do(t, w, lose(user(5), 1), lose(user(5), 3))
	mustUnder(t, w, "c5.2", "c5.1", "c5.3", "c5.1")
	do(t, w, deliver(user(5), 1), deliver(user(5), 1))
	mustUnder(t, w, "c5.2", "c5.3", "s20.1", "s20.2")
	for _, e := range []api.Event{lose(user(5), 1), double(user(5), 1), deliver(user(5), 1), lose(node(20), 3)} {
		if err := w.Do(e); err != api.ErrPacket {
			t.Errorf("%+v: %v", e, err)
		}
	}
	do(t, w, tick(5)) // names go on, whatever became of the others
	mustUnder(t, w, "c5.2", "c5.3", "s20.1", "s20.2", "c5.4", "c5.5", "c5.6")
}

func TestP1702Trim(t *testing.T) {
	t.Parallel()
	w := fresh(t)
	for range 3 {
		run(t, w, 5, lookup("plum"))
		deliverAll(t, w)
	}
	do(t, w, trim(20, 3, 0), trim(20, 2, 9))
	if w.Bucket(20, 3).Upto != 0 || !w.Instance(20, at(3, 1)).Decided {
		t.Fatal("it is trimmed")
	}
	do(t, w, trim(20, 3, 2))
	if w.Bucket(20, 3).Upto != 2 || w.Instance(20, at(3, 2)) != (api.Instance{}) || !w.Instance(20, at(3, 3)).Decided || w.Bucket(30, 3).Upto != 0 {
		t.Fatalf("%+v", w.Bucket(20, 3))
	}
	do(t, w, quota(30, 0))
	if err := w.Do(trim(30, 3, 9)); err != api.ErrFull || w.Bucket(30, 3).Upto != 0 {
		t.Fatalf("%v", err)
	}
	do(t, w, fall(20, 1))
	if err := w.Do(trim(20, 3, 9)); err != api.ErrFallen || w.Up(20) {
		t.Fatalf("%v", err)
	}
	do(t, w, trim(20, 3, 9), start(20))
	if w.Bucket(20, 3).Upto != 3 {
		t.Fatalf("%+v", w.Bucket(20, 3))
	}
	mustUnder(t, w)
}

func TestP1702Mend(t *testing.T) {
	t.Parallel()
	w := fresh(t)
	do(t, w, felled(20)...)
	run(t, w, 5, write(fileOf(5, 1), 0, 1, 2, 3, 4, 5, 6, 7, 8))
	run(t, w, 5, create("plum"))
	deliverAll(t, w)
	k := block(fileOf(5, 1), 0)
	do(t, w, start(20), mend(20, 10, k), mend(20, 30, bucketKey(3)))
	mustUnder(t, w, "s20.1", "s20.2")
	if l := w.Under(); l[0].To != node(10) || l[1].To != node(30) {
		t.Fatalf("%+v", l)
	}
	deliverAll(t, w)
	if !sameBlock(w.Block(20, k), w.Block(10, k)) || w.Block(20, k).Stamp.N != 1 || !w.Instance(20, at(3, 1)).Decided {
		t.Fatalf("%+v, %+v", w.Block(20, k), w.Instance(20, at(3, 1)))
	}
	do(t, w, fall(20, 7))
	if err := w.Do(mend(20, 20, k)); err != api.ErrAddr || !w.Up(20) {
		t.Fatalf("%v", err)
	}
	if err := w.Do(mend(20, 30, k)); err != api.ErrFallen || w.Up(20) || len(w.Under()) > 0 {
		t.Fatalf("%v", err)
	}
}
