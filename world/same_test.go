package world_test

import (
	"fmt"
	"slices"
	"testing"

	"cairn/api"
)

// machineOf is P1709's machine of an event, as text; none of an EQuota, of an event that is none, and of a packet that is not under way.
func machineOf(under []api.Packet, e api.Event) string {
	switch e.Kind {
	case api.EInvoke, api.ETick, api.EStop:
		return fmt.Sprint("client ", e.Client)
	case api.EFall, api.ETear, api.EStart, api.ETrim, api.EMend, api.EJunk:
		return fmt.Sprint("server ", e.Server)
	case api.EDeliver, api.ELose, api.EDouble:
		i := slices.IndexFunc(under, func(p api.Packet) bool { return p.From == e.Addr && p.Count == e.N })
		switch {
		case i < 0:
			return ""
		case e.Kind != api.EDeliver:
			return "way"
		case under[i].To.Client:
			return fmt.Sprint("client ", under[i].To.Id)
		}
		return fmt.Sprint("server ", under[i].To.Id)
	}
	return ""
}

// apart tells whether two events may change places. (Both name packets that are under way already, so that neither sends what the other names.)
func apart(w scene, a, b api.Event) bool {
	under := w.Under()
	x, y := machineOf(under, a), machineOf(under, b)
	if x == "" || y == "" || x == y || a.Addr == b.Addr && a.N == b.N && a.Addr.Id > 0 {
		return false
	}
	ways := map[[2]api.Addr]int{}
	for _, p := range under {
		way := [2]api.Addr{p.From, p.To}
		if ways[way]++; ways[way] > api.MaxWay-8 { // two events don't send as many
			return false
		}
	}
	return true
}

// inOrder are packets and lines as text, in an order that hangs on nothing but themselves.
func inOrder(under []api.Packet, lines []api.Line) []string {
	var all []string
	for _, p := range under {
		all = append(all, fmt.Sprintf("%+v", p))
	}
	for _, l := range lines {
		l.Op.Data, l.Result.Data, l.Result.List = append([]byte{}, l.Op.Data...), append([]byte{}, l.Result.Data...), append([]api.Entry{}, l.Result.List...)
		all = append(all, fmt.Sprintf("%+v", l))
	}
	slices.Sort(all)
	return all
}

// unlikeButOrder is unlike, but for the order of what is under way, and of the lines from one on.
func (h hall) unlikeButOrder(a, b scene, from int) string {
	x, y := a.History(), b.History()
	if len(x) != len(y) || !slices.Equal(inOrder(a.Under(), x[from:]), inOrder(b.Under(), y[from:])) {
		return fmt.Sprintf("under way %v, lines %v, and %v, %v", names(a.Under()), kinds(x[from:]), names(b.Under()), kinds(y[from:]))
	}
	for _, id := range h.c.Servers {
		m, _ := a.Image(id)
		n, _ := b.Image(id)
		if !slices.Equal(m, n) {
			return fmt.Sprintf("the disks of %d", id)
		}
	}
	return h.unlikeMachines(a, b, h.keys(x))
}

// swapped plays in two worlds, of which the second has pairs of events the other way round; it tells where they part, and counts the pairs by their kinds.
func swapped(r lot, x, y scene, steps int, pairs map[[2]int]int) string {
	for i := range steps {
		from := len(x.History())
		a, b := r.event(x), r.event(x)
		if !apart(x, a, b) {
			if x.Do(a) != y.Do(a) {
				return fmt.Sprintf("%d: %+v is not answered alike", i, a)
			}
			continue
		}
		a1, b1 := x.Do(a), x.Do(b)
		b2, a2 := y.Do(b), y.Do(a)
		fault := r.unlikeButOrder(x, y, from)
		if a1 != a2 || b1 != b2 || fault != "" {
			return fmt.Sprintf("%d: %+v, %v and %v; %+v, %v and %v: %s", i, a, a1, a2, b, b1, b2, fault)
		}
		pairs[[2]int{min(a.Kind, b.Kind), max(a.Kind, b.Kind)}]++
	}
	return ""
}

func TestP1709Neighbours(t *testing.T) {
	t.Parallel()
	for _, h := range halls() {
		t.Run(fmt.Sprintf("%d servers, %d sectors", len(h.c.Servers), h.sectors), func(t *testing.T) {
			t.Parallel()
			pairs := map[[2]int]int{}
			for seed := range int64(60) {
				if fault := swapped(h.lot(t, seed), h.made(t), h.made(t), 250, pairs); fault != "" {
					t.Fatalf("seed %d: %s", seed, fault)
				}
			}
			if len(h.c.Servers) == 1 {
				return
			}
			for _, pair := range [][2]int{{1, 2}, {1, 5}, {1, 8}, {1, 10}, {1, 11}, {2, 2}, {2, 3}, {2, 4}, {2, 5}, {2, 6}, {2, 7}, {2, 8}, {2, 9}, {2, 10}, {2, 11}, {2, 13}, {3, 8}, {4, 10}, {5, 11}} {
				if pairs[pair] < 3 {
					t.Errorf("too few of %v to tell: %v", pair, pairs)
				}
			}
		})
	}
}

// Rules by which neighbours are not the same either way are found out by that play.
func TestP1709WrongRulesAreFoundOut(t *testing.T) {
	t.Parallel()
	for _, wrong := range []string{
		"counts are of all", "nothing is sent to one that is down", "a fall loses what it has sent", "a fall loses what goes to it", "a stop loses what it has sent",
	} {
		t.Run(wrong, func(t *testing.T) {
			t.Parallel()
			for seed := range int64(400) {
				h := halls()[seed%3]
				if swapped(h.lot(t, seed), newPlain(h, wrong), newPlain(h, wrong), 250, map[[2]int]int{}) != "" {
					return
				}
			}
			t.Error("it is not found out")
		})
	}
}

// Every two of some events that are apart, in both orders, behind each beginning of the short rows.
func TestP1709EveryPair(t *testing.T) {
	t.Parallel()
	h := hall{small(), []int{5, 30}, 60}
	at := func(m move, w scene) api.Event { return m(w.Under()).event }
	seen := 0
	for _, begun := range beginnings() {
		for i, first := range moves() {
			for _, second := range moves()[:i] {
				x, y := h.made(t), h.made(t)
				if fault := played(x, y, begun...); fault != "" {
					t.Fatal(fault)
				}
				a, b := at(first, x), at(second, x)
				if !apart(x, a, b) {
					continue
				}
				seen++
				from := len(x.History())
				a1, b1 := x.Do(a), x.Do(b)
				b2, a2 := y.Do(b), y.Do(a)
				if fault := h.unlikeButOrder(x, y, from); a1 != a2 || b1 != b2 || fault != "" {
					t.Fatalf("%+v, %v and %v; %+v, %v and %v: %s", a, a1, a2, b, b1, b2, fault)
				}
			}
		}
	}
	if seen < 250 {
		t.Errorf("too few to tell: %d", seen)
	}
}

// Two runs of one script are alike, to the last byte and in all orders.
func TestP1709Runs(t *testing.T) {
	t.Parallel()
	for _, h := range halls() {
		for seed := range int64(5) {
			one := h.made(t)
			all, want := script(h.lot(t, seed), one, 300)
			for range 3 {
				w := h.made(t)
				if got := w.Play(all); !slices.Equal(got, want) {
					t.Fatalf("%v, not %v", got, want)
				}
				h.mustBeAlike(t, w, one)
			}
		}
	}
}
