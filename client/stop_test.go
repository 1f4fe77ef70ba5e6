package client_test

import (
	"testing"

	"cairn/api"
)

// mustLieStill: whatever it is handed, nothing is sent and nothing changes.
func mustLieStill(t *testing.T, c machine, answers ...api.Msg) {
	t.Helper()
	was := told(c)
	if !c.Fallen() {
		t.Fatal("it has not fallen")
	}
	for range 2 {
		for _, o := range append(ofEachKind(four()), api.Op{}, api.Op{Kind: api.OReadAt}, api.Op{Kind: -1}, create("a/b"), list(-1)) {
			mustRefuse(t, c, o, api.ErrFallen)
		}
		mustTick(t, c)
		mustPassOver(t, c, answers...)
		if l := c.Step([]byte("junk")); len(l) > 0 || len(c.Step(nil)) > 0 {
			t.Fatalf("%v", l)
		}
		c.Stop()
		if now := told(c); now != was {
			t.Fatalf("it tells of itself\n%s, not\n%s", now, was)
		}
	}
}

// Ahead of all, in each phase, behind the end: all but Fallen is told as it was.
func TestP1407Stop(t *testing.T) {
	for _, s := range pendings(t) {
		r, done := s.c.Done()
		if s.c.Fallen() || done {
			t.Fatalf("%s: %+v", s.name, r)
		}
		s.c.Stop()
		if !s.c.Pending() || s.c.Number() != 1 || s.c.Id() != me {
			t.Errorf("%s: %s", s.name, told(s.c))
		}
		mustLieStill(t, s.c, s.yes(20), s.yes(30), s.yes(10))
	}
	idle := fresh(t)
	idle.Stop()
	if idle.Pending() || idle.Number() != 0 {
		t.Errorf("%s", told(idle))
	}
	mustLieStill(t, idle, plum.promise(20), plum.promise(10))
	c := example2(t)
	c.Stop()
	want := api.Result{Entry: entry("plum", file(5, 1), 0), Instance: 1}
	mustReturn(t, c, want)
	mustLieStill(t, c, plum.second().accepted(30), plum.promise(20))
	mustReturn(t, c, want)
	readDone := fresh(t)
	readIt(t, readDone, read(file(7, 12), 3), ask{op: 1, round: 1, key: block(file(7, 12), 3)}, stamp(2, 2), "8 bytes.")
	readDone.Stop()
	mustLieStill(t, readDone)
	mustReturn(t, readDone, api.Result{Data: []byte("8 bytes."), Stamp: stamp(2, 2)})
}

// What was learned ahead of the fall is told behind it, once.
func TestP1407NewsBehindStop(t *testing.T) {
	c := example2(t)
	c.Stop()
	mustLieStill(t, c)
	mustNews(t, c, item{at(3, 1), plumCommand})
	c = example1(t)
	mustStep(t, c, plum.known(20, another), ask{1, 2, 2, at(3, 2)}.prepares(20, 30, 10)...)
	c.Stop()
	mustPassOver(t, c, ask{1, 2, 2, at(3, 2)}.known(20, plumCommand))
	mustNews(t, c, item{at(3, 1), another})
	c = example2(t)
	before := c.News()
	c.Stop()
	mustNews(t, c)
	if all := newsOf(before); len(all) != 1 || all[0] != (item{at(3, 1), plumCommand}) {
		t.Errorf("%v", all)
	}
}
