package file_test

import (
	"slices"
	"testing"

	"cairn/api"
	"cairn/client"
	"cairn/file"
)

// Each of the nine atomic operations, from its Invoke to its end: its lines, its number, and the client's Result.
func TestP1509Atomic(t *testing.T) {
	s := fresh(t)
	peg := fileOf(9, 3)
	for i, o := range []api.Op{
		create("oar"), lookup("oar"), list(0), setSize("oar", oar, 6), grow("oar", oar, 7), replace("oar", oar, peg, 2), write(peg, 3, 1, 2, 3, 4), read(peg, 3), remove("oar"),
		remove("oar"), lookup("oar"), setSize("oar", oar, 6), grow("oar", oar, 7), replace("oar", oar, peg, 2),
	} {
		from := len(s.lines)
		r := s.run(t, o)
		want, done := s.client.Done()
		if !done || !sameResult(r, want) {
			t.Fatalf("%+v: %+v, but the client's is %+v", o, r, want)
		}
		if fault := misfit(s.lines[from:], o, me, i, r); fault != "" || s.client.Number() != i+1 {
			t.Fatalf("%+v: %s; the number %d", o, fault, s.client.Number())
		}
		learned := []int{api.HInvoke, api.HLearn, api.HReturn}
		if isBlock(o) {
			learned = []int{api.HInvoke, api.HReturn}
		}
		if got := kinds(s.lines[from:]); !slices.Equal(got, learned) {
			t.Fatalf("%+v: lines %v", o, got)
		}
		if !isBlock(o) {
			l := s.lines[from+1]
			if k := (api.Key{Kind: api.KInstance, A: bucketOf(small(), o), B: r.Instance}); l.Key != k || l.Command != commandOf(o, me, i+1) {
				t.Fatalf("%+v: %+v", o, l)
			}
		}
	}
}

// Lines are made at once: those of Invoke ahead of its answer, those of a return within the call that it came by.
func TestP1509AtOnce(t *testing.T) {
	s := withOar(t)
	from := len(s.lines)
	way, _ := s.Invoke(readAt("oar", 0, 1))
	if got := kinds(s.lines[from:]); !slices.Equal(got, []int{api.HBegin, api.HInvoke}) {
		t.Fatalf("behind Invoke: %v", got)
	}
	for len(way) > 0 {
		was, number := len(s.lines), s.client.Number()
		p := way[0]
		way = append(way[1:], s.step(p)...)
		if !p.To.Client && len(s.lines) > was {
			t.Fatalf("lines %+v", s.lines[was:])
		}
		var want []int
		switch {
		case s.client.Number() > number: // the Lookup has returned
			want = []int{api.HLearn, api.HReturn, api.HInvoke}
		case !s.Pending() && len(s.lines) > was:
			want = []int{api.HReturn, api.HEnd}
		}
		if got := kinds(s.lines[was:]); !slices.Equal(got, want) {
			t.Fatalf("lines %v, not %v", got, want)
		}
	}
	from = len(s.lines)
	if s.Invoke(create("peg")); !slices.Equal(kinds(s.lines[from:]), []int{api.HInvoke}) {
		t.Fatalf("behind Invoke: %v", kinds(s.lines[from:]))
	}
}

// The packets of the next part stand behind those of the last answer.
func TestP1503PacketsBehindOthers(t *testing.T) {
	s := withOar(t)
	way, _ := s.Invoke(readAt("oar", 0, 1))
	for number := s.client.Number(); s.client.Number() == number; {
		var last []api.Packet
		for len(way) > 0 && s.client.Number() == number {
			last = s.step(way[0])
			way = append(way[1:], last...)
		}
		if s.client.Number() == number {
			t.Fatal("it does not go on")
		}
		twin := withOar(t).client // the same operation, atomic parts alone
		want := lookedUp(t, s, twin)
		if !samePackets(last, want) || len(last) != 6 {
			t.Fatalf("%v, not %v", last, want)
		}
	}
}

// lookedUp is what a client that does the parts by itself sends at the end of the Lookup, and at the invocation of the ORead behind it.
func lookedUp(t testing.TB, s *seat, c *client.Client) []api.Packet {
	t.Helper()
	way, _ := c.Invoke(lookup("oar"))
	h := withOar(t).hall
	for {
		p := way[0]
		var got []api.Packet
		if p.To.Client {
			got = c.Step(p.Data)
		} else {
			got = h.answers([]api.Packet{p})
		}
		way = append(way[1:], got...)
		if !c.Pending() {
			more, _ := c.Invoke(read(oar, 0))
			return append(got, more...)
		}
	}
}

// What others have done is learned on the way, and told in its order, ahead of the user's own and of the return.
func TestP1509LearnedOfOthers(t *testing.T) {
	h := newHall(t, small())
	other, s := h.seat(t, 9), h.seat(t, me)
	names := []string{}
	for _, name := range []string{"a", "b", "c", "d", "e", "f"} {
		if bucketOf(small(), lookup(name)) == bucketOf(small(), lookup("oar")) && len(names) < 2 {
			names = append(names, name)
			other.run(t, create(name))
		}
	}
	other.run(t, create("oar"))
	f := fileOf(9, len(names)+1)
	s.run(t, readAt("oar", 0, 9))
	b := bucketOf(small(), lookup("oar"))
	want := []api.Line{{Kind: api.HBegin, Client: me, Op: readAt("oar", 0, 9)}, {Kind: api.HInvoke, Client: me, Number: 1, Op: lookup("oar")}}
	for i, name := range append(names, "oar") {
		want = append(want, api.Line{Kind: api.HLearn, Key: api.Key{Kind: api.KInstance, A: b, B: i + 1}, Command: api.Command{Kind: api.CCreate, Client: 9, Op: i + 1, Name: name}})
	}
	want = append(want,
		api.Line{Kind: api.HLearn, Key: api.Key{Kind: api.KInstance, A: b, B: len(names) + 2}, Command: api.Command{Kind: api.CLookup, Client: me, Op: 1, Name: "oar"}},
		api.Line{Kind: api.HReturn, Client: me, Number: 1, Result: api.Result{Entry: entry("oar", f, 0), Instance: len(names) + 2}},
		api.Line{Kind: api.HEnd, Client: me, Result: api.Result{Entry: entry("oar", f, 0)}})
	mustLines(t, s.lines, want...)
	if len(names) < 2 {
		t.Error("too few names to tell")
	}
}

// What is learned is told at once, though nothing returns yet.
func TestP1509LearnedAheadOfReturn(t *testing.T) {
	h := newHall(t, small())
	other, s := h.seat(t, 9), h.seat(t, me)
	other.run(t, create("oar"))
	way, _ := s.Invoke(lookup("oar"))
	for !slices.Contains(kinds(s.lines), api.HLearn) {
		way = append(way[1:], s.step(way[0])...)
	}
	mustPend(t, s)
	if got := kinds(s.lines); !slices.Equal(got, []int{api.HInvoke, api.HLearn}) {
		t.Errorf("%v", got)
	}
	for len(way) > 0 {
		way = append(way[1:], s.step(way[0])...)
	}
	if got := kinds(s.lines); !slices.Equal(got, []int{api.HInvoke, api.HLearn, api.HLearn, api.HReturn}) {
		t.Errorf("%v", got)
	}
}

// Told nil: all goes on as with a hearer; and what the client learns is not kept for nobody.
func TestP1501ToldNil(t *testing.T) {
	a := withOar(t)
	b := newHall(t, small()).seat(t, me)
	b.machine = file.New(b.client, nil)
	for _, o := range []api.Op{create("oar"), writeAt("oar", 0, 1, 2, 3, 4, 5, 6), lookup("oar")} {
		b.run(t, o)
	}
	for _, o := range append(onOar(), atomics(small())...) {
		way, err := a.Invoke(o)
		same, sameErr := b.Invoke(o)
		for err == api.OK && len(way) > 0 {
			if !samePackets(way, same) {
				t.Fatalf("%+v: %v, not %v", o, same, way)
			}
			way, same = append(way[1:], a.step(way[0])...), append(same[1:], b.step(same[0])...)
		}
		if err != sameErr || told(a) != told(b) {
			t.Fatalf("%+v: %v, %s, not %v, %s", o, sameErr, told(b), err, told(a))
		}
		for k := range b.client.News() {
			t.Fatalf("%+v: %v is kept", o, k)
		}
	}
	if a.holds() != b.holds() {
		t.Error("the servers hold something else")
	}
}

// A user of which nothing was invoked.
func TestP1501New(t *testing.T) {
	s := fresh(t)
	if r, done := s.Done(); done || s.Pending() || !sameResult(r, api.Result{}) {
		t.Errorf("%s", told(s))
	}
	if len(s.Tick())+len(s.Step(nil))+len(s.Step([]byte("junk"))) > 0 || len(s.lines) > 0 || s.client.Number() != 0 {
		t.Errorf("%+v", s.lines)
	}
	// Two users are two: what one does the other one does not.
	h := newHall(t, small())
	a, b := h.seat(t, me), h.seat(t, 9)
	a.run(t, create("oar"))
	if _, done := b.Done(); done || len(b.lines) > 0 || b.Pending() {
		t.Error("another user has done something")
	}
}

// A client that has done something on its own ahead of New goes on with its numbers; the user has done none of it.
func TestP1501ClientWithNumbers(t *testing.T) {
	s := fresh(t)
	s.run(t, create("oar"))
	s.run(t, writeAt("oar", 0, 1, 2))
	var lines []api.Line
	u := file.New(s.client, func(l api.Line) { lines = append(lines, l) })
	if r, done := u.Done(); done || u.Pending() || !sameResult(r, api.Result{}) {
		t.Errorf("%s", told(u))
	}
	number := s.client.Number()
	s.machine = u
	if r := s.run(t, readAt("oar", 0, 2)); !slices.Equal(r.Data, []byte{1, 2}) {
		t.Errorf("%+v", r)
	}
	if lines[1].Number != number+1 || lines[1].Kind != api.HInvoke {
		t.Errorf("%+v", lines)
	}
}

// A user that New did not make refuses all, and does not panic.
func TestP1501NotMade(t *testing.T) {
	var u file.User
	for _, o := range append(append(atomics(small()), composites()...), api.Op{}) {
		if list, err := u.Invoke(o); err == api.OK || len(list) > 0 {
			t.Errorf("%+v: %v, %v", o, list, err)
		}
	}
	if _, done := u.Done(); done || u.Pending() || len(u.Tick())+len(u.Step([]byte("junk"))) > 0 {
		t.Errorf("%s", told(&u))
	}
	u.Stop()
	if _, err := u.Invoke(readAt("oar", 0, 1)); err != api.ErrFallen {
		t.Errorf("%v", err)
	}
	over := file.New(&client.Client{}, nil)
	if _, err := over.Invoke(lookup("oar")); err != api.ErrConfig {
		t.Errorf("%v", err)
	}
	if _, err := over.Invoke(readAt("oar", 0, 0)); err != api.ErrConfig || over.Pending() {
		t.Errorf("%v", err)
	}
	var m file.Model
	for _, o := range append(append(atomics(small()), composites()...), api.Op{}) {
		if r := m.Do(me, 1, o); r.Err == api.OK {
			t.Errorf("%+v: %+v", o, r)
		}
	}
}

// Who is told may ask the user meanwhile: it is busy, and all goes on as without that.
func TestP1509AskedMeanwhile(t *testing.T) {
	want := withOar(t)
	s := newHall(t, small()).seat(t, me)
	s.machine = file.New(s.client, func(l api.Line) {
		s.lines = append(s.lines, l)
		if len(s.lines) > 1000 {
			t.Fatal("no end")
		}
		s.Done()
		if l.Kind == api.HBegin || l.Kind == api.HInvoke {
			if _, err := s.Invoke(lookup("peg")); err != api.ErrBusy || !s.Pending() {
				t.Errorf("%v, %v", err, s.Pending())
			}
		}
	})
	for _, o := range []api.Op{create("oar"), writeAt("oar", 0, 1, 2, 3, 4, 5, 6), lookup("oar")} {
		s.run(t, o)
	}
	for _, o := range onOar() {
		if a, b := want.run(t, o), s.run(t, o); !sameResult(a, b) {
			t.Fatalf("%+v: %+v, not %+v", o, b, a)
		}
	}
	mustLines(t, s.lines, want.lines...)
}

// Who is told may have the user fall: nothing goes on, the operation stays pending, and no line is made twice.
func TestP1506StoppedMeanwhile(t *testing.T) {
	for _, at := range []int{api.HBegin, api.HInvoke, api.HReturn} {
		h := withOar(t).hall
		s := &seat{hall: h, client: made(t, h.c, 9)}
		s.machine = file.New(s.client, func(l api.Line) {
			if s.lines = append(s.lines, l); l.Kind == at {
				s.Stop()
			}
		})
		way, _ := s.Invoke(readAt("oar", 0, 6))
		s.goOn(way)
		want := api.HInvoke // the last line that is made
		if at == api.HReturn {
			want = api.HReturn
		}
		if got := kinds(s.lines); got[len(got)-1] != want || len(parts(s.lines)) != 1 {
			t.Errorf("a fall at %d: %v", at, got)
		}
		mustPend(t, s)
		mustLieStill(t, s, nil)
	}
}
