package history_test

import (
	"fmt"
	"slices"
	"sync"
	"testing"

	"cairn/api"
	"cairn/history"
)

// roomy has these, with others in its spare room.
func roomy[T any](list []T, spare T) []T {
	return append(slices.Clone(list), spare, spare, spare)[:len(list)]
}

// spoil fills a list, its spare room too.
func spoil[T any](list []T, with T) {
	list = list[:cap(list)]
	for i := range list {
		list[i] = with
	}
}

// handed are lines as they are handed in, with the spare room of all lists filled.
func handed(l []api.Line) []api.Line {
	l = roomy(l, api.Line{Kind: 99})
	for i := range l {
		l[i].Op.Data = roomy(l[i].Op.Data, 'r')
		l[i].Result.Data = roomy(l[i].Result.Data, 'r')
		l[i].Result.List = roomy(l[i].Result.List, api.Entry{Name: "r"})
	}
	return l
}

// whole tells all that lines hold, the spare room of their lists too.
func whole(l []api.Line) string {
	s := ""
	for _, x := range l[:cap(l)] {
		s += fmt.Sprintln(x, x.Op.Data[:cap(x.Op.Data)], x.Result.Data[:cap(x.Result.Data)], x.Result.List[:cap(x.Result.List)])
	}
	return s
}

// What is handed in, its spare room too, is not changed.
func TestP2HandedIn(t *testing.T) {
	t.Parallel()
	for _, s := range manyDrawn()[:2000] {
		c := s.c
		c.Servers = roomy(c.Servers, 99)
		servers := slices.Clone(c.Servers[:cap(c.Servers)])
		l := handed(s.l)
		before := whole(l)
		history.Right(c, l)
		history.Witness(c, l)
		history.Alone(l)
		for _, o := range s.orders {
			order := roomy(o, 0)
			was := slices.Clone(order[:cap(order)])
			history.Legal(c, l, order)
			if !slices.Equal(order[:cap(order)], was) {
				t.Fatalf("the order is %v now, and was %v", order[:cap(order)], was)
			}
		}
		if whole(l) != before || !slices.Equal(c.Servers[:cap(c.Servers)], servers) {
			t.Fatalf("what was handed in is changed:\n%s", words(l))
		}
	}
}

// Nothing of it is kept, and an order that is told is new memory: filled, it changes nothing.
func TestP2ToldAndNotKept(t *testing.T) {
	t.Parallel()
	for _, s := range manyDrawn()[:2000] {
		l := handed(s.l)
		order, _ := history.Witness(s.c, l)
		other, _ := history.Witness(s.c, l)
		spoil(order, -77)
		for _, x := range l {
			spoil(x.Op.Data, '#')
			spoil(x.Result.Data, '#')
			spoil(x.Result.List, api.Entry{Name: "#"})
		}
		spoil(l, api.Line{Kind: 99})
		if !slices.Equal(other, s.order) {
			t.Fatalf("an order is %v now, and was %v", other, s.order)
		}
		again := look(s.c, s.l, s.orders[:len(s.orders)-1]...)
		if again.right != s.right || again.ok != s.ok || !slices.Equal(again.order, s.order) || !slices.Equal(again.legal, s.legal) || again.alone != s.alone {
			t.Fatalf("the same lines are not answered the same:\n%s", words(s.l))
		}
	}
}

// An order that is told may be handed in again, and be filled then.
func TestP2ToldAndHandedInAgain(t *testing.T) {
	l := tangle()
	order, _ := history.Witness(small(), l)
	mustBeLegal(t, small(), l, 3, order...)
	if n := history.Legal(small(), l, order); n != 3 || !slices.Equal(order, []int{1, 0, 4}) {
		t.Fatalf("Legal: %d; the order is %v now", n, order)
	}
	spoil(order, 0)
	mustTell(t, small(), l, 1, 0, 4)
}

// The same lines answer the same, whoever asks at the same time, and in whatever order the servers stand.
func TestP3Same(t *testing.T) {
	t.Parallel()
	all := manyDrawn()[:1500]
	var work sync.WaitGroup
	faults := make([]string, 4)
	for w := range faults {
		work.Go(func() {
			for _, s := range all {
				c := s.c
				c.Servers = slices.Clone(c.Servers)
				slices.Reverse(c.Servers)
				again := look(c, s.l, s.orders[:len(s.orders)-1]...)
				if again.right != s.right || again.ok != s.ok || !slices.Equal(again.order, s.order) || !slices.Equal(again.legal, s.legal) || again.alone != s.alone {
					faults[w] = words(s.l)
				}
			}
		})
	}
	work.Wait()
	for _, fault := range faults {
		if fault != "" {
			t.Errorf("not answered the same:\n%s", fault)
		}
	}
}
