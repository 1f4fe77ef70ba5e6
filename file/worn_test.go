package file_test

import (
	"fmt"
	"slices"
	"testing"

	"cairn/api"
	"cairn/file"
	"cairn/msg"
)

// onOar are composite operations on the six bytes of the examples, of none to many parts.
func onOar() []api.Op {
	return []api.Op{
		readAt("oar", 3, 10), readAt("oar", 6, 1), readAt("oar", 4, 2), writeAt("oar", 5, 9, 9, 9, 9), writeAt("oar", 4, 7, 7, 7, 7), writeAt("oar", 9), writeAt("oar", 1, 1),
		truncate("oar", 3), truncate("oar", 6), truncate("oar", 20), truncate("oar", 0), truncate("oar", 4), copyTo("oar", "peg"),
	}
}

// The numbers that are left: none, one, just as many as are wanted, one fewer, one more.
func TestP1505Numbers(t *testing.T) {
	for _, o := range onOar() {
		wanted := file.Parts(o, entry("oar", oar, 6), 4)
		for _, left := range []int{0, 1, wanted - 1, wanted, wanted + 1} { // behind the Lookup
			if left < 0 {
				continue
			}
			s := newHall(t, small()).twins(t, me, "")
			for _, x := range []api.Op{create("oar"), writeAt("oar", 0, 1, 2, 3, 4, 5, 6)} {
				s.run(t, x)
			}
			s.set("number", api.MaxNum-left-1)
			held, from := s.blocks(), len(s.lines)
			r := s.run(t, o)
			mustAgree(t, s)
			m := modelWithOar(t)
			if want := m.Do(me, api.MaxNum-left, o); !sameAnswer(r, want) {
				t.Fatalf("%+v, %d left: %+v, but the Model %+v", o, left, r, want)
			}
			if left >= wanted {
				if r.Err != api.OK || s.client.Number() != api.MaxNum-left+wanted || len(parts(s.lines[from:])) != wanted+1 {
					t.Fatalf("%+v, %d left of %d: %+v, the number %d", o, left, wanted, r, s.client.Number())
				}
				continue
			}
			if !sameResult(r, api.Result{Err: api.ErrWorn}) || s.client.Number() != api.MaxNum-left || s.blocks() != held {
				t.Fatalf("%+v, %d left of %d: %+v, the number %d", o, left, wanted, r, s.client.Number())
			}
			if got := kinds(s.lines[from:]); !slices.Equal(got, []int{api.HBegin, api.HInvoke, api.HLearn, api.HReturn, api.HEnd}) {
				t.Fatalf("%+v: lines %v", o, got)
			}
			if r := m.Do(1, 1, readAt("oar", 0, 99)); !sameResult(r, withData(entryOf(6), 1, 2, 3, 4, 5, 6)) {
				t.Fatalf("behind %+v the Model has %+v", o, r)
			}
			if r := m.Do(1, 3, lookup("peg")); r.Err != api.ErrNotFound {
				t.Fatalf("behind %+v the Model has %+v", o, r)
			}
		}
	}
}

// blocks is what the servers hold of blocks and names, as text; not what was asked of buckets.
func (s *seat) blocks() string {
	text := ""
	for _, id := range s.c.Servers {
		for k := range s.at[id].Keys() {
			if k.Kind == api.KBlock {
				text += fmt.Sprint(id, k, s.at[id].Block(k))
			}
		}
	}
	return text
}

// A name that is not there is not found, however few numbers are left.
func TestP1505NotFoundComesFirst(t *testing.T) {
	s := fresh(t)
	poke(s.client, "number", api.MaxNum-1)
	if r := s.run(t, copyTo("oar", "peg")); !sameResult(r, api.Result{Err: api.ErrNotFound}) {
		t.Errorf("%+v", r)
	}
	if r := model(t, small()).Do(me, api.MaxNum, copyTo("oar", "peg")); !sameResult(r, api.Result{Err: api.ErrNotFound}) {
		t.Errorf("the Model: %+v", r)
	}
	mustRefuse(t, s, readAt("oar", 0, 0), api.ErrWorn)
}

// The last number of all is used by a part; behind it all is refused at once.
func TestP1505TheLastNumber(t *testing.T) {
	s := withOar(t)
	poke(s.client, "number", api.MaxNum-3)
	if r := s.run(t, readAt("oar", 0, 6)); !sameResult(r, withData(entryOf(6), 1, 2, 3, 4, 5, 6)) || s.client.Number() != api.MaxNum {
		t.Errorf("%+v, %d", r, s.client.Number())
	}
	last := s.lines[len(s.lines)-2]
	if last.Kind != api.HReturn || last.Number != api.MaxNum {
		t.Errorf("%+v", last)
	}
	for _, o := range append(atomics(small()), composites()...) {
		mustRefuse(t, s, o, api.ErrWorn)
	}
	mustReturn(t, s, withData(entryOf(6), 1, 2, 3, 4, 5, 6))
}

// The Model takes numbers up to the last one.
func TestP1508Numbers(t *testing.T) {
	for _, o := range onOar() {
		for left := range 9 {
			m, want := modelWithOar(t), newStore(small(), "")
			want.Do(me, 1, create("oar"))
			want.Do(me, 2, writeAt("oar", 0, 1, 2, 3, 4, 5, 6))
			if a, b := m.Do(9, api.MaxNum-left, o), want.Do(9, api.MaxNum-left, o); !sameResult(a, b) {
				t.Fatalf("%+v, %d left: %+v, not %+v", o, left, a, b)
			}
			for _, x := range []api.Op{readAt("oar", 0, 99), readAt("peg", 0, 99), read(oar, 0), read(oar, 1), read(oar, 2)} {
				if a, b := m.Do(1, 1, x), want.Do(1, 1, x); !sameResult(a, b) {
					t.Fatalf("behind %+v, %d left: %+v: %+v, not %+v", o, left, x, a, b)
				}
			}
		}
	}
	for _, o := range atomics(small()) {
		if r := modelWithOar(t).Do(me, api.MaxNum, o); r.Err == api.ErrWorn {
			t.Errorf("%+v: %+v", o, r)
		}
	}
}

// wornIn runs an operation in which the client's rounds end behind so many parts that are whole, and tells its result.
func wornIn(t testing.TB, s *seat, o api.Op, whole int) api.Result {
	t.Helper()
	from := len(s.lines)
	returns := func() int {
		n := 0
		for _, l := range s.lines[from:] {
			if l.Kind == api.HReturn {
				n++
			}
		}
		return n
	}
	if whole == 0 {
		s.set("round", api.MaxNum)
	}
	way, err := s.Invoke(o)
	if err != api.OK {
		t.Fatalf("%+v: %v", o, err)
	}
	for ; len(way) > 0; way = append(way[1:], s.step(way[0])...) {
		if whole > 0 && returns() == whole-1 { // the present part began below: it is not touched by this
			s.set("round", api.MaxNum)
		}
	}
	r, done := s.Done()
	if !done {
		t.Fatalf("%+v has not returned", o)
	}
	return r
}

// A part that is refused, at each place: the operation ends there, with that error alone, and the parts ahead of it have done what they do.
func TestP1504RefusedAtEachPart(t *testing.T) {
	t.Parallel()
	for _, o := range onOar() {
		all := file.Parts(o, entry("oar", oar, 6), 4) + 1
		for whole := range all {
			s := newHall(t, small()).twins(t, me, "")
			s.run(t, create("oar"))
			s.run(t, writeAt("oar", 0, 1, 2, 3, 4, 5, 6))
			from, number := len(s.lines), s.client.Number()
			r := wornIn(t, s, o, whole)
			mustAgree(t, s)
			if !sameResult(r, api.Result{Err: api.ErrWorn}) {
				t.Fatalf("%+v behind %d parts: %+v", o, whole, r)
			}
			lines := s.lines[from:]
			done := parts(lines)
			if fault := misfit(lines, o, me, number, r); fault != "" || len(done) != whole+1 || s.client.Number() != number+whole+1 {
				t.Fatalf("%+v behind %d parts: %s %+v", o, whole, fault, done)
			}
			// Another user finds what the whole parts have left.
			want := newStore(small(), "")
			want.Do(me, 1, create("oar"))
			want.Do(me, 2, writeAt("oar", 0, 1, 2, 3, 4, 5, 6))
			for i, part := range done[:whole] {
				want.Do(me, number+1+i, part)
			}
			other := s.hall.seat(t, 9)
			for _, x := range []api.Op{readAt("oar", 0, 99), readAt("peg", 0, 99), read(oar, 0), read(oar, 1), read(oar, 2), read(fileOf(me, number+2), 0), read(fileOf(me, number+2), 1), list(0), list(1)} {
				if a, b := other.run(t, x), want.Do(9, 1, x); !sameAnswer(a, b) {
					t.Fatalf("%+v behind %d parts: %+v: %+v, not %+v", o, whole, x, a, b)
				}
			}
		}
	}
}

// A part may return with its invocation, the first one too: then Invoke answers no packets, and the operation has returned.
func TestP1503ReturnsWithInvoke(t *testing.T) {
	for _, o := range append(composites(), create("oar"), read(oar, 0)) {
		s := newHall(t, small()).twins(t, me, "")
		s.set("round", api.MaxNum)
		way, err := s.Invoke(o)
		if err != api.OK || len(way) > 0 {
			t.Fatalf("%+v: %v, %v", o, way, err)
		}
		mustAgree(t, s)
		mustReturn(t, s, api.Result{Err: api.ErrWorn})
		if fault := misfit(s.lines, o, me, 0, api.Result{Err: api.ErrWorn}); fault != "" {
			t.Fatalf("%+v: %s", o, fault)
		}
		if list := s.Tick(); len(list) > 0 || s.client.Number() != 1 {
			t.Fatalf("%+v: %v, number %d", o, list, s.client.Number())
		}
	}
}

// At a tick a part may return, too.
func TestP1503ReturnsWithTick(t *testing.T) {
	s := newHall(t, small()).twins(t, me, "")
	s.set("round", api.MaxNum-1)
	way, _ := s.Invoke(readAt("oar", 0, 1))
	for _, b := range answered(t, small(), way, func(m *api.Msg) { m.Kind, m.Stamp = api.MNack, api.Stamp{N: m.Stamp.N + 3, Client: 9} }) {
		s.Step(b)
	}
	mustPend(t, s)
	if list := s.Tick(); len(list) > 0 {
		t.Fatalf("%v", list)
	}
	mustAgree(t, s)
	mustReturn(t, s, api.Result{Err: api.ErrWorn})
	mustLines(t, s.lines, api.Line{Kind: api.HBegin, Client: me, Op: readAt("oar", 0, 1)}, api.Line{Kind: api.HInvoke, Client: me, Number: 1, Op: lookup("oar")},
		api.Line{Kind: api.HReturn, Client: me, Number: 1, Result: api.Result{Err: api.ErrWorn}}, api.Line{Kind: api.HEnd, Client: me, Result: api.Result{Err: api.ErrWorn}})
}

// answered is what two servers answer to the messages of a part, each as it is told to.
func answered(t testing.TB, c api.Config, way []api.Packet, of func(m *api.Msg)) [][]byte {
	t.Helper()
	var all [][]byte
	for _, p := range way[:2] {
		m, err := msg.Decode(p.Data, c)
		if err != api.OK {
			t.Fatal(err)
		}
		m.From, m.To = m.To, m.From
		of(&m)
		b, err := msg.Encode(m, c)
		if err != api.OK {
			t.Fatalf("%+v: %v", m, err)
		}
		all = append(all, b)
	}
	return all
}

// upTo invokes an operation, and brings it to where this part is invoked; it tells the part's packets.
func (s *seat) upTo(t testing.TB, o, part api.Op) []api.Packet {
	t.Helper()
	way, err := s.Invoke(o)
	if err != api.OK {
		t.Fatalf("%+v: %v", o, err)
	}
	for !sameOp(s.lines[len(s.lines)-1].Op, part) {
		if len(way) == 0 {
			t.Fatalf("%+v is no part: %+v", part, parts(s.lines))
		}
		way = append(way[1:], s.step(way[0])...)
	}
	var own []api.Packet
	for _, p := range way {
		if m, err := msg.Decode(p.Data, s.c); err == api.OK && m.Op == s.client.Number() {
			own = append(own, p)
		}
	}
	return own
}

// A bucket that has taken all its instances refuses each command: the last part of a write, say.
func TestP1504InstancesUsedUp(t *testing.T) {
	s := withOar(t)
	full := api.Bucket{Upto: api.MaxInstance, Entries: []api.Entry{entry("oar", oar, 6)}, Lasts: []api.Last{{Client: me, Op: 1, Instance: 1, File: oar}}}
	way := s.upTo(t, writeAt("oar", 4, 1, 2, 3, 4), grow("oar", oar, 8))
	for _, b := range answered(t, small(), way, func(m *api.Msg) { m.Kind, m.Stamp, m.Bucket = api.MBucket, api.Stamp{}, full }) {
		s.Step(b)
	}
	mustReturn(t, s, api.Result{Err: api.ErrWorn})
	if s.lines[len(s.lines)-1].Kind != api.HEnd {
		t.Errorf("%+v", s.lines[len(s.lines)-1])
	}
}

// A tag at its end: an OWrite is refused, in the midst of an operation.
func TestP1504TagsUsedUp(t *testing.T) {
	for _, x := range []struct{ o, part api.Op }{
		{writeAt("oar", 0, 1, 2, 3, 4, 5), write(oar, 0, 1, 2, 3, 4)}, {truncate("oar", 0), write(oar, 1, 0, 0, 0, 0)}, {truncate("oar", 1), write(oar, 0, 1, 0, 0, 0)},
	} {
		s := withOar(t)
		way := s.upTo(t, x.o, x.part)
		last := s.lines[len(s.lines)-1]
		for _, b := range answered(t, small(), way, func(m *api.Msg) {
			m.Kind, m.Block, m.Stamp = api.MValue, []byte{1, 1, 1, 1}, api.Stamp{N: api.MaxNum, Client: 3}
		}) {
			if list := s.Step(b); len(list) > 0 {
				t.Fatalf("%v", list)
			}
		}
		mustReturn(t, s, api.Result{Err: api.ErrWorn})
		if s.client.Number() != last.Number {
			t.Errorf("the number %d behind %d", s.client.Number(), last.Number)
		}
	}
}

// Rules broken on purpose of what is worn, and of what is refused: the tests above would find them out.
func TestWrongEndsAreFoundOut(t *testing.T) {
	o := writeAt("oar", 5, 9, 9, 9, 9)
	wanted := file.Parts(o, entry("oar", oar, 6), 4)
	for _, x := range []struct {
		wrong string
		left  int // numbers behind the Lookup's
		whole int // parts that are whole ahead of the end of the rounds; 0: these do not end
	}{
		{"worn one early", wanted, 0}, {"worn one late", wanted - 1, 0}, {"a refused block is passed over", wanted, 1}, {"a refused block is passed over", wanted, 3},
	} {
		s := newHall(t, small()).twins(t, me, x.wrong)
		s.run(t, create("oar"))
		s.run(t, writeAt("oar", 0, 1, 2, 3, 4, 5, 6))
		mustAgree(t, s)
		if s.set("number", api.MaxNum-x.left-1); x.whole > 0 {
			wornIn(t, s, o, x.whole)
		} else {
			s.run(t, o)
		}
		if s.fault() == "" {
			t.Errorf("%s: it is not found out", x.wrong)
		}
	}
}
