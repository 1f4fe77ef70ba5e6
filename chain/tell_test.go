package chain_test

import (
	"iter"
	"slices"
	"testing"

	"cairn/api"
	"cairn/chain"
)

// A life of a chain, in which all that it may be asked comes, and what it tells behind each step.
func TestP1106EachStep(t *testing.T) {
	c := fresh()
	var b api.Bucket
	look := func(ballot, round int) {
		t.Helper()
		mustBe(t, c, told{bucket: b, ballot: ballot, round: round})
	}
	look(0, 0)
	c.Begin(x, first, round)
	look(first, round)
	c.Take(start.promise(2))
	look(first, round)
	c.Take(start.holding(4, stamp(1, 9), y))
	look(first, round+1)
	c.Take(start.second().accepted(2))
	look(first, round+1)
	c.Take(start.second().accepted(9))
	b = api.Bucket{Upto: 1, Entries: []api.Entry{entry("fig", 9, 1, 0)}, Lasts: []api.Last{{Client: 9, Op: 1, Instance: 1, File: file(9, 1)}}}
	look(first+1, round+2)
	a := ask{4, 2, first + 1, round + 2}
	c.Take(a.nack(9, 11, 2))
	look(11, round+2)
	c.Tick()
	look(12, round+3)
	a = ask{4, 2, 12, round + 3}
	c.Take(a.trimmed(4, aBucket(6)))
	b = aBucket(6)
	look(13, round+4)
	a = a.anew(7)
	c.Tick()
	look(13, round+4)
	c.Take(a.known(2, grow(9, 2, "fig", file(9, 1), 30)))
	b = aBucket(7)
	b.Entries[0].Size = 30
	b.Lasts[1] = api.Last{Client: 9, Op: 2, Instance: 7, File: file(9, 1), Size: 30}
	look(14, round+5)
	a = a.anew(8)
	c.Take(a.promise(9))
	c.Take(a.promise(4))
	look(14, round+6)
	c.Take(a.second().accepted(4))
	c.Take(a.second().accepted(2))
	b.Upto, b.Entries = 8, slices.Insert(b.Entries, 1, entry("plum", client, 4, 0))
	b = with(b, last(4, 8, api.OK, file(client, 4), 0))
	mustBe(t, c, told{result: api.Result{Entry: entry("plum", client, 4, 0), Instance: 8}, done: true, bucket: b, ballot: 14, round: round + 6})
	mustNews(t, c, item{1, y}, item{7, grow(9, 2, "fig", file(9, 1), 30)}, item{8, x})
}

// The result stays till the next command is begun, and not longer; a second Begin while one is pending is none.
func TestP1106DoneOfTheLastCommand(t *testing.T) {
	c := begun()
	c.Take(start.known(2, x))
	want := api.Result{Entry: entry("plum", client, 4, 0), Instance: 1}
	mustEnd(t, c, want)
	for range 3 {
		mustEnd(t, c, want)
	}
	a := ask{5, 2, 9, 30}
	c.Begin(list(client, 5), 9, 30)
	mustGoOn(t, c, a)
	c.Begin(x, 50, 50)
	mustGoOn(t, c, a)
	c.Take(a.known(4, list(client, 5)))
	mustEnd(t, c, api.Result{List: []api.Entry{entry("plum", client, 4, 0)}, Instance: 2})
	c.Begin(create(client, 6, "ash"), 0, 0)
	mustEnd(t, c, api.Result{Err: api.ErrWorn})
	c.Begin(remove(client, 7, "plum"), 10, 40)
	mustGoOn(t, c, ask{7, 3, 10, 40})
}

func commandAt(i int) api.Command { return create(9, i, string(rune('a'+i))) }

// learning is a chain that has learned so many commands, none of them told as news; and what it asks.
func learning(n int) (*chain.Chain, ask) {
	c, a := begun(), start
	for i := range n {
		c.Take(a.known(2, commandAt(i+1)))
		a = a.anew(i + 2)
	}
	return c, a
}

func items(from, to int) []item {
	var list []item
	for i := from; i <= to; i++ {
		list = append(list, item{i, commandAt(i)})
	}
	return list
}

func TestP1106NewsSinceTheLastCall(t *testing.T) {
	c, a := learning(3)
	mustNews(t, c, items(1, 3)...)
	c.Take(a.known(2, commandAt(4)))
	mustNews(t, c, items(4, 4)...)
	a = a.anew(5)
	c.Take(a.known(2, commandAt(5)))
	a = a.anew(6)
	c.Take(a.known(2, commandAt(6)))
	c.Take(a.anew(7).known(2, x))
	mustNews(t, c, append(items(5, 6), item{7, x})...)
}

// A call of News counts, whether it is ranged over or not, or left early.
func TestP1106NewsThatIsNotRangedOver(t *testing.T) {
	c, a := learning(3)
	c.News()
	mustNews(t, c)
	c.Take(a.known(2, commandAt(4)))
	c.Take(a.anew(5).known(2, commandAt(5)))
	for range c.News() {
		break
	}
	mustNews(t, c)
	c.Take(a.anew(5).anew(6).known(2, commandAt(6)))
	mustNews(t, c, items(6, 6)...)
}

func TestP5NewsLeftEarlyAndAgain(t *testing.T) {
	c, _ := learning(4)
	s := c.News()
	for stop := range 5 {
		var got []item
		for v, z := range s {
			if len(got) == stop {
				break
			}
			got = append(got, item{v, z})
		}
		if !slices.Equal(got, items(1, stop)) {
			t.Fatalf("left behind %d: %+v", stop, got)
		}
	}
	calls := 0
	s(func(int, api.Command) bool { calls++; return calls < 2 })
	if calls != 2 {
		t.Fatalf("one that says no at the second is called %d times", calls)
	}
	var outer []item
	for v, z := range s {
		if inner := newsOf(s); !slices.Equal(inner, items(1, 4)) {
			t.Fatalf("within itself: %+v", inner)
		}
		outer = append(outer, item{v, z})
	}
	if !slices.Equal(outer, items(1, 4)) {
		t.Fatalf("around itself: %+v", outer)
	}
}

// The sequence is of the news when it was made, whatever the chain learns and is asked meanwhile.
func TestP5NewsWhileTheChainGoesOn(t *testing.T) {
	c, a := learning(3)
	s := c.News()
	var got []item
	for v, z := range s {
		c.Take(a.known(2, commandAt(3+v)))
		a = a.anew(4 + v)
		c.Tick()
		if v == 2 {
			c.News()
		}
		got = append(got, item{v, z})
	}
	if !slices.Equal(got, items(1, 3)) || !slices.Equal(newsOf(s), items(1, 3)) {
		t.Fatalf("%+v, then %+v", got, newsOf(s))
	}
	mustNews(t, c, items(6, 6)...)
	mustGoOn(t, c, a)
}

// Two sequences in turns, each of its own news.
func TestP5NewsInTurns(t *testing.T) {
	c, a := learning(2)
	early := c.News()
	c.Take(a.known(2, commandAt(3)))
	c.Take(a.anew(4).known(2, commandAt(4)))
	nextA, stopA := iter.Pull2(early)
	defer stopA()
	nextB, stopB := iter.Pull2(c.News())
	defer stopB()
	for i := 1; i <= 2; i++ {
		if v, z, ok := nextA(); !ok || v != i || z != commandAt(i) {
			t.Fatalf("the first one: %d, %+v, %v", v, z, ok)
		}
		if v, z, ok := nextB(); !ok || v != i+2 || z != commandAt(i+2) {
			t.Fatalf("the second one: %d, %+v, %v", v, z, ok)
		}
	}
	if v, _, ok := nextA(); ok {
		t.Fatalf("the first one: %d", v)
	}
	if v, _, ok := nextB(); ok {
		t.Fatalf("the second one: %d", v)
	}
}

// Of all proposers the greatest counts, of ballots and of rounds for themselves.
func TestP1107GreatestOfAll(t *testing.T) {
	c := fresh()
	mustReach(t, c, 0, 0)
	c.Begin(x, 100, 5)
	c.Take(ask{4, 1, 100, 5}.known(2, x))
	mustReach(t, c, 100, 5)
	c.Begin(create(client, 5, "ash"), 7, 50)
	mustReach(t, c, 100, 50)
	c.Take(ask{5, 2, 7, 50}.nack(2, 90, 1))
	mustReach(t, c, 100, 50)
	c.Take(ask{5, 2, 7, 50}.nack(4, 110, 1))
	mustReach(t, c, 110, 50)
	c.Tick()
	mustReach(t, c, 111, 51)
	c.Take(ask{5, 2, 111, 51}.known(2, create(client, 5, "ash")))
	c.Begin(create(client, 6, "oak"), 1, 1)
	mustReach(t, c, 111, 51)
}
