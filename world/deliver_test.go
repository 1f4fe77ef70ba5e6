package world_test

import (
	"fmt"
	"slices"
	"testing"

	"cairn/api"
	"cairn/msg"
)

// decoded is the message of a packet.
func decoded(t testing.TB, c api.Config, p api.Packet) api.Msg {
	t.Helper()
	m, err := msg.Decode(p.Data, c)
	if err != api.OK {
		t.Fatalf("%+v: %v", p, err)
	}
	return m
}

// A packet is a step of whom it goes to, and what that tells is sent behind all others.
func TestP1703ServerAndClient(t *testing.T) {
	t.Parallel()
	w := fresh(t)
	do(t, w, invoke(5, create("plum")), deliver(user(5), 3), deliver(user(5), 1))
	mustUnder(t, w, "c5.2", "s10.1", "s20.1")
	for i, from := range []int{10, 20} {
		p := w.Under()[1+i]
		if m := decoded(t, small(), p); p.From != node(from) || p.To != user(5) || m.Kind != api.MPromise || m.From != p.From || m.To != p.To {
			t.Fatalf("%+v, %+v", p, m)
		}
		if x := w.Instance(from, at(3, 1)); x.Promised != (api.Stamp{N: 1, Client: 5}) {
			t.Fatalf("%+v", x)
		}
	}
	do(t, w, deliver(node(20), 1), deliver(node(10), 1))
	mustUnder(t, w, "c5.2", "c5.4", "c5.5", "c5.6")
	var to []int
	for _, p := range w.Under() {
		to = append(to, p.To.Id)
	}
	if !slices.Equal(to, []int{30, 20, 30, 10}) || decoded(t, small(), w.Under()[3]).Kind != api.MAccept {
		t.Fatalf("to %v", to)
	}
}

// What goes to a server that is down, or to a client that has fallen, is lost at its delivery, and not ahead of it; it is there for who is up again by then.
func TestP1703Lost(t *testing.T) {
	t.Parallel()
	w := fresh(t)
	do(t, w, felled(20)...)
	do(t, w, invoke(5, create("plum")), invoke(6, read(fileOf(5, 1), 0)))
	mustUnder(t, w, "c5.1", "c5.2", "c5.3", "c6.1", "c6.2", "c6.3")
	do(t, w, double(user(5), 1), deliver(user(5), 1))
	mustUnder(t, w, "c5.2", "c5.3", "c6.1", "c6.2", "c6.3", "c5.1")
	do(t, w, start(20), deliver(user(5), 1))
	if w.Instance(20, at(3, 1)).Promised.N != 1 {
		t.Fatal("it was not handed to the server that is up again")
	}
	do(t, w, stop(5), double(node(20), 1), deliver(node(20), 1), deliver(node(20), 1))
	mustUnder(t, w, "c5.2", "c5.3", "c6.1", "c6.2", "c6.3")
	do(t, w, deliver(user(5), 2)) // what it had sent is handed on
	mustUnder(t, w, "c5.3", "c6.1", "c6.2", "c6.3", "s30.1")
}

// A fall takes nothing that is under way away, to whom ever it goes.
func TestP1703FallsLoseNothingUnderWay(t *testing.T) {
	t.Parallel()
	w := fresh(t)
	do(t, w, invoke(5, create("plum")), deliver(user(5), 1), tick(5))
	under := names(w.Under())
	do(t, w, felled(20)...)
	mustUnder(t, w, under...)
	do(t, w, start(20))
	mustUnder(t, w, under...)
	do(t, w, deliver(node(20), 1), deliver(user(5), 2), deliver(node(30), 1))
	if decoded(t, small(), w.Under()[len(w.Under())-1]).Kind != api.MAccept {
		t.Fatal("the answer of one that fell since was not taken")
	}
}

// Servers and clients of one id are unlike addresses.
func TestP1703OneId(t *testing.T) {
	t.Parallel()
	w := made(t, small(), 100, 20, 30, 10)
	do(t, w, invoke(20, create("plum")), deliver(user(20), 1))
	mustUnder(t, w, "c20.2", "c20.3", "s20.1")
	if w.Up(20) != true || !w.Pending(20) || w.Pending(30) {
		t.Fatal("a server is taken for a client")
	}
	do(t, w, fall(20, 0), stop(30))
	if !w.Up(30) || !w.Up(20) {
		t.Fatal("a client's stop is a server's")
	}
	do(t, w, tick(20), deliver(user(20), 4))
	if w.Up(20) || w.Do(invoke(20, create("a"))) != api.ErrBusy || w.Do(invoke(30, create("a"))) != api.ErrFallen {
		t.Fatal("a server's fall is a client's")
	}
	if n := w.Fair(20, 9); n != 2 {
		t.Fatalf("Fair: %d", n)
	}
}

// crowd has so many packets under way from client 5 to each server of its group, by ticks.
func crowd(t testing.TB, h hall, n int) scene {
	t.Helper()
	w := h.made(t)
	do(t, w, invoke(5, create("plum")))
	for range n - 1 {
		do(t, w, tick(5))
	}
	return w
}

// On a way with 63, 64 and 65 packets.
func TestP1703Way(t *testing.T) {
	t.Parallel()
	h := hall{small(), []int{5, 6}, 100}
	for n, most := range map[int]struct{ sent, doubled int }{63: {189, 191}, 64: {192, 192}, 65: {192, 192}, 70: {192, 192}} {
		w := crowd(t, h, n)
		if l := w.Under(); len(l) != most.sent || l[len(l)-1].Count != most.sent {
			t.Fatalf("%d: %d packets", n, len(l))
		}
		do(t, w, double(user(5), 1), double(user(5), 3), double(user(5), 1)) // two to 20, one to 10
		if got := len(w.Under()); got != most.doubled {
			t.Fatalf("%d: doubled: %d packets", n, got)
		}
		do(t, w, invoke(6, create("plum"))) // another's way is another
		l := w.Under()
		if last := l[len(l)-1]; last.From != user(6) || last.Count != 3 {
			t.Fatalf("%d: %+v", n, last)
		}
		do(t, w, deliver(user(5), 1), lose(user(5), 2), tick(5)) // there is room for one more to each of two
		l = w.Under()
		if last := l[len(l)-1]; n >= 64 && (last.From != user(5) || last.Count != 3*n+2 || last.To != node(30)) {
			t.Fatalf("%d: %+v", n, last)
		}
		do(t, w, tick(5))
		if fault := h.full(w); fault != "" {
			t.Fatalf("%d: %s", n, fault)
		}
	}
}

// full tells whether a way has more than it may.
func (h hall) full(w scene) string {
	count := map[[2]api.Addr]int{}
	for _, p := range w.Under() {
		if count[[2]api.Addr{p.From, p.To}]++; count[[2]api.Addr{p.From, p.To}] > api.MaxWay {
			return fmt.Sprintf("%v to %v: %d", p.From, p.To, count[[2]api.Addr{p.From, p.To}])
		}
	}
	return ""
}

// The answers' way is as narrow: what a server sends beyond is lost, and has its name all the same.
func TestP1703AnswersWay(t *testing.T) {
	t.Parallel()
	w := fresh(t)
	do(t, w, invoke(5, create("plum")))
	for n := 1; n <= 70; n++ {
		do(t, w, double(user(5), 1), deliver(user(5), 1))
	}
	do(t, w, lose(user(5), 1), lose(user(5), 2), lose(user(5), 3))
	l := w.Under()
	if len(l) != 64 || l[63].From != node(20) || l[63].Count != 64 {
		t.Fatalf("%d packets", len(l))
	}
	do(t, w, lose(node(20), 64), tick(5), deliver(user(5), 4))
	if l = w.Under(); l[len(l)-1].From != node(20) || l[len(l)-1].Count != 71 {
		t.Fatalf("%+v", l[len(l)-1])
	}
}

// Rows on ways that are full or nearly: a world and a plain one, and the wrong bounds are found out.
func TestP1703CrowdedRows(t *testing.T) {
	t.Parallel()
	h := hall{small(), []int{5, 6}, 60}
	play := func(seed int64, wrong string) string {
		r, a, b := h.lot(t, seed), h.made(t), newPlain(h, wrong)
		for _, c := range append(slices.Repeat([]api.Event{tick(5)}, 62+int(seed%4)), double(user(5), 1), double(user(5), 2)) {
			if c.Kind == api.EDouble || len(a.History()) > 0 {
				a.Do(c)
				b.Do(c)
				continue
			}
			a.Do(invoke(5, create("plum")))
			b.Do(invoke(5, create("plum")))
		}
		return held(r, a, b, 60, map[string]int{})
	}
	for seed := range int64(20) {
		if fault := play(seed, ""); fault != "" {
			t.Fatalf("seed %d: %s", seed, fault)
		}
	}
	for _, wrong := range wrongWays() {
		found := ""
		for seed := range int64(20) {
			found += play(seed, wrong)
		}
		if found == "" {
			t.Errorf("%s: it is not found out", wrong)
		}
	}
}
