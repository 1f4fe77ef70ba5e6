package world_test

import (
	"fmt"
	"runtime"
	"slices"
	"testing"
	"time"

	"cairn/api"
	"cairn/world"
)

// script draws events in a world that it plays them in, and tells how each was answered.
func script(r lot, w scene, n int) ([]api.Event, []api.Errno) {
	var all []api.Event
	var answers []api.Errno
	for range n {
		e := r.event(w)
		all = append(all, e)
		answers = append(answers, w.Do(e))
	}
	return all, answers
}

// The same events one by one with Do, at once with Play, in two pieces, in three, and with Do between.
func TestP1705PlayIsDo(t *testing.T) {
	t.Parallel()
	for _, h := range halls() {
		t.Run(fmt.Sprintf("%d servers, %d sectors", len(h.c.Servers), h.sectors), func(t *testing.T) {
			t.Parallel()
			for seed := range int64(20) {
				r, one := h.lot(t, seed), h.made(t)
				all, want := script(r, one, 250)
				i := r.Intn(len(all) + 1)
				j := i + r.Intn(len(all)-i+1)
				for name, play := range map[string]func(w *world.World) []api.Errno{
					"in one piece": func(w *world.World) []api.Errno { return w.Play(all) },
					"in two":       func(w *world.World) []api.Errno { return append(w.Play(all[:i]), w.Play(all[i:])...) },
					"in three": func(w *world.World) []api.Errno {
						return slices.Concat(w.Play(all[:i]), w.Play(all[i:j]), w.Play(all[j:]))
					},
					"in pieces of one":    func(w *world.World) []api.Errno { return eachAlone(w, all) },
					"with Do between":     func(w *world.World) []api.Errno { return append(playAndDo(w, all[:j]), w.Play(all[j:])...) },
					"looked at meanwhile": func(w *world.World) []api.Errno { return looking(h, w, all) },
				} {
					w := h.made(t)
					if got := play(w); !slices.Equal(got, want) {
						t.Fatalf("seed %d, %s: %v, not %v", seed, name, got, want)
					}
					if fault := h.unlike(w, one); fault != "" {
						t.Fatalf("seed %d, %s: %s", seed, name, fault)
					}
				}
			}
		})
	}
}

func eachAlone(w *world.World, all []api.Event) []api.Errno {
	var answers []api.Errno
	for _, e := range all {
		answers = append(answers, w.Play([]api.Event{e})...)
	}
	return answers
}

func playAndDo(w *world.World, all []api.Event) []api.Errno {
	var answers []api.Errno
	for i, e := range all {
		if i%2 == 0 {
			answers = append(answers, w.Do(e))
		} else {
			answers = append(answers, w.Play(all[i:i+1])...)
		}
	}
	return answers
}

// looking asks for all that there is to see between pieces: asking changes nothing.
func looking(h hall, w *world.World, all []api.Event) []api.Errno {
	var answers []api.Errno
	for piece := range slices.Chunk(all, 40) {
		h.unlike(w, w)
		answers = append(answers, w.Play(piece)...)
	}
	return answers
}

func TestP1705Nothing(t *testing.T) {
	t.Parallel()
	w, twin := lived(t), lived(t)
	if l := w.Play(nil); len(l) > 0 {
		t.Fatalf("%v", l)
	}
	if l := w.Play([]api.Event{}); len(l) > 0 {
		t.Fatalf("%v", l)
	}
	(hall{small(), []int{5, 6, 30}, 100}).mustBeAlike(t, w, twin)
}

// Play answers in the events' order, whoever does them.
func TestP1705Order(t *testing.T) {
	t.Parallel()
	w := fresh(t)
	got := w.Play([]api.Event{
		invoke(5, create("plum")), invoke(5, create("plum")), {}, invoke(7, create("plum")), deliver(user(5), 1), deliver(user(5), 1),
		trim(20, 4, 0), mend(20, 20, bucketKey(3)), mend(20, 30, at(3, 1)), lose(user(5), 2), lose(user(5), 2), stop(5), invoke(5, create("plum")), fall(20, 0), trim(20, 3, 0), trim(20, 3, 0),
	})
	want := []api.Errno{
		api.OK, api.ErrBusy, api.ErrEvent, api.ErrAddr, api.OK, api.ErrPacket,
		api.ErrBucket, api.ErrAddr, api.ErrKey, api.OK, api.ErrPacket, api.OK, api.ErrFallen, api.OK, api.ErrFallen, api.OK,
	}
	if !slices.Equal(got, want) {
		t.Fatalf("%v, not %v", got, want)
	}
}

// A row that has everybody do something: 64 servers, 255 clients.
func TestP1705Everybody(t *testing.T) {
	t.Parallel()
	h := hall{greatest(), nil, 12}
	h.c.Block, h.c.Room = 4, 1
	for id := 1; id <= api.MaxId; id++ {
		h.clients = append(h.clients, id)
	}
	var all []api.Event
	for _, id := range h.clients {
		all = append(all, invoke(id, write(fileOf(id, 1), 0, 1, 2, 3, byte(id))))
		for n := range 7 {
			all = append(all, deliver(user(id), n+1))
		}
	}
	for _, id := range h.c.Servers {
		all = append(all, fall(id, 0), junk(id), start(id))
	}
	a, b := h.made(t), h.made(t)
	if x, y := a.Play(all), b.Play(all[:500]); !slices.Equal(x, append(y, b.Play(all[500:])...)) || slices.Max(x) != api.OK {
		t.Fatalf("%v", x)
	}
	h.mustBeAlike(t, a, b)
}

// mustSettle: there are no more goroutines than there were, at last.
func mustSettle(t *testing.T, most int) {
	t.Helper()
	for range 200 {
		if runtime.NumGoroutine() <= most {
			return
		}
		time.Sleep(5 * time.Millisecond)
	}
	t.Fatalf("%d goroutines, not %d", runtime.NumGoroutine(), most)
}

// All goroutines of a Play have ended when it answers. (Not in parallel: others' would be counted.)
func TestP1705GoroutinesEnd(t *testing.T) {
	most := runtime.NumGoroutine()
	h := hall{small(), []int{5, 6, 30}, 60}
	for seed := range int64(10) {
		r, one := h.lot(t, seed), h.made(t)
		all, _ := script(r, one, 60)
		w := h.made(t)
		for _, e := range all {
			w.Play([]api.Event{e})
		}
		w.Play(all)
		w.Fair(5, 3)
	}
	mustSettle(t, most)
}
