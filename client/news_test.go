package client_test

import (
	"slices"
	"testing"

	"cairn/api"
)

// A call of News counts, whether its sequence is ranged over, in part, or not at all.
func TestP1408CallsCount(t *testing.T) {
	learn := func() machine {
		c := fresh(t)
		decide(t, c, create("plum"), plum)
		decide(t, c, list(1), ask{2, 3, 2, at(1, 1)})
		decide(t, c, list(3), ask{3, 5, 3, at(3, 2)})
		return c
	}
	want := []item{{at(3, 1), plumCommand}, {at(1, 1), commandOf(list(1), me, 2)}, {at(3, 2), commandOf(list(3), me, 3)}}
	mustNews(t, learn(), want...)
	c := learn()
	c.News() // not ranged over
	mustNews(t, c)
	c = learn()
	for k := range c.News() { // in part
		if k != want[0].key {
			t.Errorf("%v", k)
		}
		break
	}
	mustNews(t, c)
	c = learn()
	all := c.News()
	decide(t, c, list(0), ask{4, 7, 4, at(0, 1)})
	again := c.News()
	decide(t, c, list(0), ask{5, 9, 5, at(0, 2)})
	for range 2 { // each goes over what was news when it was made
		if got := newsOf(all); !slices.Equal(got, want) {
			t.Errorf("%v", got)
		}
		if got := newsOf(again); !slices.Equal(got, []item{{at(0, 1), commandOf(list(0), me, 4)}}) {
			t.Errorf("%v", got)
		}
	}
	mustNews(t, c, item{at(0, 2), commandOf(list(0), me, 5)})
}

// Within itself, and with the client asked meanwhile.
func TestP1408Within(t *testing.T) {
	c := fresh(t)
	decide(t, c, create("plum"), plum)
	decide(t, c, list(1), ask{2, 3, 2, at(1, 1)})
	all := c.News()
	seen, n := 0, 2
	for k := range all {
		for l := range all {
			if seen++; l == k {
				break
			}
		}
		n++
		decide(t, c, list(2), ask{n, 2*n - 1, n, at(2, n-2)})
	}
	if seen != 3 || n != 4 {
		t.Errorf("%d, %d", seen, n)
	}
	mustNews(t, c, item{at(2, 1), commandOf(list(2), me, 3)}, item{at(2, 2), commandOf(list(2), me, 4)})
}

// What comes while a command is on its way is news ahead of its end; of several buckets each in the order in which it was learned.
func TestP1408OnTheWay(t *testing.T) {
	c := fresh(t)
	group := []int{20, 30, 10}
	mustNews(t, c)
	mustInvoke(t, c, create("plum"), plum.prepares(group...)...)
	mustNews(t, c)
	mustStep(t, c, plum.known(20, another), ask{1, 2, 2, at(3, 2)}.prepares(group...)...)
	mustNews(t, c, item{at(3, 1), another})
	third := api.Command{Kind: api.CRemove, Client: 9, Op: 2, Name: "fig"}
	mustStep(t, c, ask{1, 2, 2, at(3, 2)}.known(10, third), ask{1, 3, 3, at(3, 3)}.prepares(group...)...)
	mustStep(t, c, ask{1, 3, 3, at(3, 3)}.known(10, plumCommand))
	last := nameIn(four(), 0, 0)
	mustInvoke(t, c, create(last), ask{2, 4, 4, at(0, 1)}.prepares(groupOf(four(), at(0, 1))...)...)
	mustStep(t, c, ask{2, 4, 4, at(0, 1)}.known(10, another), ask{2, 5, 5, at(0, 2)}.prepares(groupOf(four(), at(0, 1))...)...)
	mustStep(t, c, ask{2, 5, 5, at(0, 2)}.known(10, commandOf(create(last), me, 2)))
	decide(t, c, list(3), ask{3, 6, 6, at(3, 4)})
	mustNews(t, c,
		item{at(3, 2), third}, item{at(3, 3), plumCommand}, item{at(0, 1), another}, item{at(0, 2), commandOf(create(last), me, 2)}, item{at(3, 4), commandOf(list(3), me, 3)})
}

// Reads and writes are no news.
func TestP1408Blocks(t *testing.T) {
	c := fresh(t)
	writeIt(t, c, write(file(5, 1), 0, "8 bytes."), ask{op: 1, round: 1, key: block(file(5, 1), 0)}, stamp(0, 0))
	readIt(t, c, read(file(5, 1), 0), ask{op: 2, round: 3, key: block(file(5, 1), 0)}, stamp(1, 5), "8 bytes.")
	mustNews(t, c)
}
