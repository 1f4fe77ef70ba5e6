package world_test

import (
	"fmt"
	"slices"
	"testing"

	"cairn/api"
)

// halls are those of the plays: servers and clients of one id are among them.
func halls() []hall {
	return []hall{
		{small(), []int{5, 30, 6}, 70},
		{small(), []int{20, 10, 30}, 130},
		{wide(), []int{1, 255, 2}, 60},
		{least(), []int{255, 1}, 60},
		{api.Config{Servers: []int{4, 2, 1}, F: 1, Points: 1, Buckets: 1, Block: 16, Room: 3}, []int{4, 1, 7}, 100},
	}
}

// held plays one row of calls on a world and on a plain one, looks at all that there is to see behind each (at the disks behind some), and tells where they part.
func held(r lot, a, b scene, calls int, ends map[string]int) string {
	for i := range calls {
		c := r.call(a)
		x, y := c.on(a), c.on(b)
		if x != y {
			return fmt.Sprintf("%d: %s: %d, and %d", i, c, x, y)
		}
		look := r.unlikeAtAGlance
		if i%6 == 5 || i == calls-1 {
			look = r.unlike
		}
		if fault := look(a, b); fault != "" {
			return fmt.Sprintf("%d: behind %s: %s", i, c, fault)
		}
		if !c.fair {
			ends[fmt.Sprint(c.event.Kind, " ", api.Errno(x))]++
		} else if x > 0 {
			ends["Fair"]++
		}
	}
	return ""
}

// Rows of calls of all kinds, with all that there is to see behind each.
func TestP1702LongRows(t *testing.T) {
	t.Parallel()
	for _, h := range halls() {
		t.Run(fmt.Sprintf("%d servers, %d sectors", len(h.c.Servers), h.sectors), func(t *testing.T) {
			t.Parallel()
			ends := map[string]int{}
			for seed := range int64(40) {
				if fault := held(h.lot(t, seed), h.made(t), newPlain(h, ""), 260, ends); fault != "" {
					t.Fatalf("seed %d: %s", seed, fault)
				}
			}
			for _, what := range []string{
				"1 ok", "1 busy", "1 op", "2 ok", "2 packet", "3 ok", "3 packet", "4 ok", "4 packet", "5 ok", "6 ok", "7 ok", "8 ok", "9 ok",
				"10 ok", "10 bucket", "11 key", "12 ok", "13 ok", "13 event", "Fair",
			} {
				if ends[what] < 4 && (what != "11 key" || len(h.c.Servers) > 1) { // a server alone has nobody to ask
					t.Errorf("too few of %s to tell: %v", what, ends)
				}
			}
		})
	}
}

// Rules that are broken on purpose: these rows find each of them out.
func TestP1702WrongRulesAreFoundOut(t *testing.T) {
	t.Parallel()
	for _, wrong := range wrongRules() {
		t.Run(wrong, func(t *testing.T) {
			t.Parallel()
			for seed := range int64(120) {
				h := halls()[seed%3]
				if fault := held(h.lot(t, seed), h.made(t), newPlain(h, wrong), 260, map[string]int{}); fault != "" {
					return
				}
			}
			t.Error("it is not found out")
		})
	}
}

// move is a call that hangs on what is under way.
type move func(under []api.Packet) call

// way is an event of the which-th packet under way, from the left; from the right, if it is below 0.
func way(kind, which int) move {
	return func(under []api.Packet) call {
		e := api.Event{Kind: kind, Addr: user(5), N: 1}
		if which < 0 {
			which += len(under)
		}
		if which >= 0 && which < len(under) {
			e.Addr, e.N = under[which].From, under[which].Count
		}
		return call{event: e}
	}
}

func plainly(e api.Event) move { return func([]api.Packet) call { return call{event: e} } }

func fairly(client, exchanges int) move {
	return func([]api.Packet) call { return call{fair: true, client: client, exchanges: exchanges} }
}

// moves are what the short rows are made of.
func moves() []move {
	return []move{
		way(api.EDeliver, 0), way(api.EDeliver, 1), way(api.EDeliver, -1), way(api.ELose, 0), way(api.EDouble, 0),
		plainly(tick(5)), plainly(stop(5)), plainly(invoke(5, create("plum"))), plainly(invoke(30, lookup("plum"))),
		plainly(fall(20, 0)), plainly(fall(20, 1)), plainly(tear(20, 0, 100)), plainly(start(20)), plainly(quota(20, 0)),
		plainly(trim(20, 3, 9)), plainly(mend(20, 30, bucketKey(3))), plainly(junk(20, 1)), fairly(5, 1), fairly(30, 2),
	}
}

// beginnings are what is ahead of the short rows.
func beginnings() [][]move {
	created := []move{plainly(invoke(5, create("plum"))), fairly(5, 9)}
	told := append(created, way(api.EDeliver, 0), way(api.EDeliver, 0), way(api.EDeliver, 0)) // MLearned
	return [][]move{
		{plainly(invoke(5, create("plum"))), way(api.EDeliver, 0), way(api.EDeliver, 0)},
		append(created, plainly(invoke(30, lookup("plum"))), plainly(fall(20, 0)), way(api.EDeliver, 0)),
		append(told, plainly(fall(20, 1)), plainly(invoke(5, write(fileOf(5, 1), 0, 1, 2, 3, 4, 5, 6, 7, 8)))),
		append(told, plainly(trim(30, 3, 1)), plainly(invoke(30, create("plum"))), plainly(invoke(5, lookup("plum"))), plainly(quota(20, 34))),
	}
}

// played makes a row of moves on two worlds, and tells where they are not answered alike.
func played(a, b scene, row ...move) string {
	for i, m := range row {
		c := m(a.Under())
		if x, y := c.on(a), c.on(b); x != y {
			return fmt.Sprintf("%d: %s: %d, and %d", i, c, x, y)
		}
	}
	return ""
}

// allRows plays every row of so many moves behind a row, and looks at all that there is to see behind each.
func (h hall) allRows(t *testing.T, row []move, more int) {
	t.Helper()
	a, b := h.made(t), newPlain(h, "")
	fault := played(a, b, row...)
	if fault == "" {
		fault = h.unlike(a, b)
	}
	if fault != "" {
		t.Fatal(fault)
	}
	if more == 0 {
		return
	}
	for i, m := range moves() {
		if h.allRows(t, append(slices.Clip(row), m), more-1); t.Failed() {
			t.Fatalf("behind move %d", i)
		}
	}
}

// Every row of up to three moves behind each beginning.
func TestP1702ShortRows(t *testing.T) {
	t.Parallel()
	h := hall{small(), []int{5, 30}, 40}
	for i, begun := range beginnings() {
		for j, first := range moves() {
			t.Run(fmt.Sprint(i, " ", j), func(t *testing.T) {
				t.Parallel()
				h.allRows(t, append(slices.Clip(begun), first), 2)
			})
		}
	}
}
