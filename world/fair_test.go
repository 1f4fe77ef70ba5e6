package world_test

import (
	"fmt"
	"math"
	"slices"
	"testing"

	"cairn/api"
)

// byEvents is Fair by the words, with events alone.
func byEvents(t testing.TB, w scene, client, exchanges int) int {
	t.Helper()
	loseAll(t, w)
	for n := 1; n <= exchanges; n++ {
		do(t, w, tick(client))
		for range 2 {
			for _, p := range w.Under() {
				do(t, w, deliver(p.From, p.Count))
			}
		}
		if !w.Pending(client) {
			return n
		}
	}
	return -1
}

// Where nothing happens.
func TestP1708Nothing(t *testing.T) {
	t.Parallel()
	h := hall{small(), []int{5, 6, 30}, 100}
	w, twin := lived(t), lived(t)
	for _, n := range []int{math.MinInt, -1, 0, 1, 9, math.MaxInt} {
		for _, client := range []int{0, 7, 10, 20, -5, 256, math.MinInt, math.MaxInt} {
			if got := w.Fair(client, n); got != -1 {
				t.Fatalf("Fair(%d, %d): %d", client, n, got)
			}
		}
		if n < 1 {
			for _, client := range []int{5, 6, 30} { // 6 has fallen
				if got := w.Fair(client, n); got != -1 {
					t.Fatalf("Fair(%d, %d): %d", client, n, got)
				}
			}
		}
	}
	h.mustBeAlike(t, w, twin)
	for _, w := range []scene{w, twin} { // now nothing is pending at 30, with something under way
		w.Fair(30, 9)
		do(t, w, tick(5))
	}
	for _, n := range []int{math.MinInt, -1, 0, 1, 9, math.MaxInt} {
		if got := w.Fair(30, n); got != 0 {
			t.Fatalf("Fair(30, %d): %d", n, got)
		}
	}
	do(t, w, stop(30))
	do(t, twin, stop(30))
	if got := w.Fair(30, 9); got != 0 {
		t.Fatalf("of one that has fallen: %d", got)
	}
	h.mustBeAlike(t, w, twin)
}

// All that is under way is lost first, whoever sent it, to whom it goes; the names go on.
func TestP1708Lost(t *testing.T) {
	t.Parallel()
	w := fresh(t)
	do(t, w, invoke(6, read(fileOf(5, 1), 0)), deliver(user(6), 1), mend(10, 20, bucketKey(0)), invoke(5, create("plum")), deliver(user(5), 1))
	if n := w.Fair(5, 1); n != -1 {
		t.Fatal(n)
	}
	mustUnder(t, w, "c5.7", "c5.8", "c5.9")
	if l := w.Under(); decoded(t, small(), l[0]).Kind != api.MAccept || !w.Pending(6) {
		t.Fatal("the exchange was another one")
	}
	if n := w.Fair(5, 1); n != 1 { // the MAccepts are lost: what is ticked is the present round
		t.Fatal(n)
	}
	mustUnder(t, w, "c5.13", "c5.14", "c5.15")
}

// So many exchanges at most; each one whole, the last one too.
func TestP1708Exchanges(t *testing.T) {
	t.Parallel()
	h := hall{small(), []int{5, 6}, 100}
	for n := 1; n <= 40; n++ {
		w, twin := h.made(t), h.made(t)
		for _, w := range []scene{w, twin} {
			run(t, w, 5, create("plum"))
			do(t, w, invoke(6, writeAt("plum", 3, eight...)))
		}
		got, want := w.Fair(6, n), byEvents(t, twin, 6, n)
		if got != want || w.Pending(6) != (want < 0) {
			t.Fatalf("Fair(6, %d): %d, not %d", n, got, want)
		}
		h.mustBeAlike(t, w, twin)
		if n == 40 && (got < 5 || got > 20) {
			t.Fatalf("it takes %d exchanges", got)
		}
	}
}

// In turns with all else that happens, Fair is as its words.
func TestP1708ByEvents(t *testing.T) {
	t.Parallel()
	for _, h := range halls() {
		t.Run(fmt.Sprintf("%d servers, %d sectors", len(h.c.Servers), h.sectors), func(t *testing.T) {
			t.Parallel()
			ends := map[int]int{}
			for seed := range int64(40) {
				r, a, b := h.lot(t, seed), h.made(t), h.made(t)
				for range 12 {
					for range r.Intn(25) {
						e := r.event(a)
						a.Do(e)
						b.Do(e)
					}
					client, n := r.client(), 1+r.Intn(12)
					if !a.Pending(client) {
						continue
					}
					x, y := a.Fair(client, n), byEvents(t, b, client, n)
					if fault := h.unlike(a, b); x != y || fault != "" {
						t.Fatalf("seed %d: Fair(%d, %d): %d, not %d: %s", seed, client, n, x, y, fault)
					}
					ends[x]++
				}
			}
			for _, n := range []int{-1, 1, 2} {
				if ends[n] < 10 {
					t.Errorf("too few to tell: %v", ends)
				}
			}
		})
	}
}

// Nobody else steps: another's pending operation stays as it is, however near its end it was.
func TestP1708NobodyElse(t *testing.T) {
	t.Parallel()
	w := fresh(t)
	do(t, w, invoke(6, read(fileOf(5, 1), 0)))
	deliverSome(t, w, 2) // two answers would be enough
	do(t, w, invoke(5, create("plum")))
	from := len(w.History())
	if n := w.Fair(5, 9); n != 2 || !w.Pending(6) {
		t.Fatalf("%d, pending %v", n, w.Pending(6))
	}
	for _, l := range w.History()[from:] {
		if l.Client == 6 {
			t.Fatalf("%+v", l)
		}
	}
	if n := w.Fair(6, 9); n != 1 {
		t.Fatal(n)
	}
}

// deliverSome delivers the first ones under way.
func deliverSome(t testing.TB, w scene, n int) {
	t.Helper()
	for _, p := range w.Under()[:n] {
		do(t, w, deliver(p.From, p.Count))
	}
}

// With F servers down it returns, whichever these are; with more it does not, and does when one is up again.
func TestP1708Down(t *testing.T) {
	t.Parallel()
	for _, o := range []api.Op{create("plum"), lookup("plum"), read(fileOf(5, 1), 0), write(fileOf(5, 1), 0, eight...), list(3), readAt("plum", 0, 4)} {
		for _, down := range [][]int{{}, {10}, {20}, {30}, {10, 20}, {20, 30}, {30, 10}, {10, 20, 30}} {
			w := fresh(t)
			for _, id := range down {
				do(t, w, felled(id)...)
			}
			do(t, w, invoke(5, o))
			n := w.Fair(5, 20)
			if returned := n > 0; returned != (len(down) <= 1) || w.Pending(5) == returned {
				t.Fatalf("%+v, %v down: Fair: %d", o, down, n)
			}
			if len(down) < 2 {
				continue
			}
			if len(w.Under()) > 0 {
				t.Fatalf("%d packets are under way behind an exchange that leads to nothing", len(w.Under()))
			}
			for _, id := range down[1:] {
				do(t, w, start(id))
			}
			if n := w.Fair(5, 20); n < 1 || w.Pending(5) {
				t.Fatalf("%+v, %v were down: Fair: %d", o, down, n)
			}
		}
	}
}

// A server may fall in an exchange: what is left of it goes on.
func TestP1708FallsMeanwhile(t *testing.T) {
	t.Parallel()
	for records := range 3 {
		w := fresh(t)
		do(t, w, invoke(5, create("plum")), fall(20, records))
		if n := w.Fair(5, 9); n != 2 || w.Up(20) {
			t.Fatalf("%d, up %v", n, w.Up(20))
		}
		w = fresh(t)
		do(t, w, invoke(5, create("plum")), fall(20, records), tear(30, 1, 9))
		if n := w.Fair(5, 9); n != -1 || w.Up(20) || w.Up(30) || !w.Pending(5) {
			t.Fatalf("%d, up %v, %v", n, w.Up(20), w.Up(30))
		}
	}
}

// A client that has fallen: its operation returns no more, in however many exchanges; nothing is sent, and all that was under way is lost.
func TestP1708Fallen(t *testing.T) {
	t.Parallel()
	for _, n := range []int{1, 2, 1000, math.MaxInt} {
		w := fresh(t)
		do(t, w, invoke(5, create("plum")), deliver(user(5), 1), invoke(6, create("plum")), stop(5))
		lines := w.History()
		if got := w.Fair(5, n); got != -1 || !w.Pending(5) || len(w.Under()) > 0 || !slices.EqualFunc(w.History(), lines, sameLine) {
			t.Fatalf("Fair(5, %d): %d, %d under way", n, got, len(w.Under()))
		}
		do(t, w, tick(6))
		mustUnder(t, w, "c6.4", "c6.5", "c6.6")
	}
}

// Fair is no event: events that come behind it find the world as its events have left it.
func TestP1708GoesOn(t *testing.T) {
	t.Parallel()
	w := fresh(t)
	do(t, w, invoke(5, create("plum")))
	if n := w.Fair(5, 9); n != 2 {
		t.Fatal(n)
	}
	deliverAll(t, w) // MLearned
	for _, id := range []int{10, 20, 30} {
		if !w.Instance(id, at(3, 1)).Decided {
			t.Fatalf("server %d has not learned", id)
		}
	}
	do(t, w, invoke(5, remove("plum")))
	if n := w.Fair(5, math.MaxInt); n != 2 {
		t.Fatal(n)
	}
	if r := lastResult(w, 5); r.Err != api.OK || r.Instance != 2 {
		t.Fatalf("%+v", r)
	}
}
