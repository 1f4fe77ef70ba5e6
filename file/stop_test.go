package file_test

import (
	"fmt"
	"testing"

	"cairn/api"
)

// mustLieStill: whatever it is handed, nothing is sent, made or changed.
func mustLieStill(t testing.TB, s *seat, way []api.Packet) {
	t.Helper()
	was, lines, number := told(s), len(s.lines), s.client.Number()
	for range 2 {
		for _, o := range append(append(atomics(small()), composites()...), api.Op{}, readAt("a/b", -1, 0)) {
			mustRefuse(t, s, o, api.ErrFallen)
		}
		if list := s.Tick(); len(list) > 0 {
			t.Fatalf("Tick: %v", list)
		}
		for _, p := range way {
			if list := s.Step(p.Data); len(list) > 0 {
				t.Fatalf("Step: %v", list)
			}
		}
		s.Stop()
	}
	if told(s) != was || len(s.lines) != lines || s.client.Number() != number {
		t.Fatalf("it tells of itself\n%s, not\n%s; lines %+v", told(s), was, s.lines[lines:])
	}
}

// A user falls at each place of each operation: ahead of each packet, its own and those for it.
func TestP1506FallsAtEachPlace(t *testing.T) {
	t.Parallel()
	all := append([]api.Op{create("peg"), list(0), read(oar, 0), write(oar, 1, 1, 2, 3, 4)}, onOar()...)
	for _, o := range all {
		t.Run(fmt.Sprint(o.Kind, " ", o.At, " ", o.N), func(t *testing.T) {
			t.Parallel()
			for place := 0; ; place++ {
				s := withOar(t)
				way, _ := s.Invoke(o)
				for range place {
					if len(way) == 0 {
						return // behind the last place
					}
					way = append(way[1:], s.step(way[0])...)
				}
				was, pending := told(s), s.Pending()
				s.Stop()
				if told(s) != was || s.Pending() != pending || !s.client.Fallen() {
					t.Fatalf("at %d: %s, not %s", place, told(s), was)
				}
				var back []api.Packet
				for _, p := range way { // what is under way comes all the same
					if p.To.Client {
						back = append(back, p)
					} else {
						back = append(back, s.answers([]api.Packet{p})...)
					}
				}
				mustLieStill(t, s, back)
				if pending {
					mustPend(t, s)
				}
			}
		})
	}
}

// Ahead of all, and behind an end.
func TestP1506FallsIdle(t *testing.T) {
	s := fresh(t)
	s.Stop()
	if _, done := s.Done(); done || s.Pending() {
		t.Errorf("%s", told(s))
	}
	mustLieStill(t, s, nil)
	s = withOar(t)
	want := withData(entryOf(6), 3, 4, 5)
	s.run(t, readAt("oar", 2, 3))
	s.Stop()
	mustReturn(t, s, want)
	mustLieStill(t, s, nil)
	mustReturn(t, s, want)
}

// What a fallen user's parts have done stays, and others find it.
func TestP1506OthersGoOn(t *testing.T) {
	s := withOar(t)
	s.upTo(t, writeAt("oar", 0, 9, 9, 9, 9, 9, 9, 9, 9), write(oar, 1, 9, 9, 9, 9))
	s.Stop()
	other := s.hall.seat(t, 9)
	mustRun(t, other, readAt("oar", 0, 99), withData(entryOf(6), 9, 9, 9, 9, 5, 6), lookup("oar"), read(oar, 0), read(oar, 1))
}

// Done is of the operation that was invoked last: nothing while it is pending, whatever was told ahead of it.
func TestP1506Done(t *testing.T) {
	s := withOar(t)
	for _, o := range append(onOar(), lookup("oar"), read(oar, 0), list(1)) {
		way, err := s.Invoke(o)
		if err != api.OK {
			t.Fatalf("%+v: %v", o, err)
		}
		for s.Pending() {
			mustPend(t, s)
			way = append(way[1:], s.step(way[0])...)
		}
		r, _ := s.Done()
		mustReturn(t, s, r)
		if !isPart(o) && (r.Stamp != (api.Stamp{}) || r.Instance != 0) {
			t.Errorf("%+v: %+v", o, r)
		}
		for range 2 { // what comes behind the end changes nothing
			for _, p := range way {
				if p.To.Client {
					s.Step(p.Data)
				}
			}
			s.Tick()
			mustRefuse(t, s, readAt("a/b", 0, 0), api.ErrName)
		}
		mustReturn(t, s, r)
	}
}
