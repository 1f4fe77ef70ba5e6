package chain_test

import (
	"math"
	"slices"
	"testing"

	"cairn/api"
	"cairn/chain"
)

func TestP1101Nothing(t *testing.T) {
	for _, servers := range [][]int{{1}, group(), {7, 6, 5, 4, 3, 2, 1}} {
		for _, space := range []int{1, room, api.MaxRoom} {
			c := chain.New(client, number, servers, space)
			mustBe(t, c, told{})
			mustNews(t, c)
		}
	}
}

func TestP1101TwoAreTwo(t *testing.T) {
	servers := group()
	a, b := chain.New(client, number, servers, room), chain.New(client, number, servers, room)
	mustTell(t, "Begin", a.Begin(x, first, round), start.prepares()...)
	mustBe(t, b, told{})
	mustTell(t, "the other one's Tick", b.Tick())
	mustTell(t, "the first one's Take", a.Take(start.known(2, y)), start.anew(2).prepares()...)
	mustBe(t, b, told{})
	mustNews(t, b)
	mustTell(t, "the other one's Begin", b.Begin(create(client, 5, "plum"), 8, 30), ask{5, 1, 8, 30}.prepares()...)
	mustGoOn(t, a, start.anew(2))
	mustNews(t, a, item{1, y})
}

// Each kind of command is proposed as it is.
func TestP1102Begin(t *testing.T) {
	for _, c := range append(ofEachKind(client, 4, "plum", file(9, 1)), ofEachKind(client, 4, "fig", file(9, 1))...) {
		m := fresh()
		mustTell(t, "Begin", m.Begin(c, first, round), start.prepares()...)
		mustGoOn(t, m, start)
		mustPassOver(t, m, start.promise(9))
		mustTell(t, "Take", m.Take(start.promise(4)), start.second().accepts(c)...)
		mustNews(t, m)
	}
}

// The messages bear the chain's client, the bucket's number and the command's op, and go to its group, in that order.
func TestP1103WhatAProposerIsOf(t *testing.T) {
	for _, id := range []int{1, 7, api.MaxId} {
		for _, n := range []int{0, 2, api.MaxBuckets - 1} {
			for _, op := range []int{1, 4, api.MaxNum} {
				for _, servers := range [][]int{{1}, {9, 4, 2}, {7, 1, 6, 2, 5, 3, 255}} {
					c := chain.New(id, n, servers, room)
					var want []api.Msg
					for _, to := range servers {
						want = append(want, api.Msg{Kind: api.MPrepare, From: user(id), To: server(to), Op: op, Round: round, Key: api.Key{Kind: api.KInstance, A: n, B: 1}, Stamp: stamp(first, id)})
					}
					mustTell(t, "Begin", c.Begin(create(id, op, "plum"), first, round), want...)
					mustTell(t, "Tick", c.Tick(), want...)
				}
			}
		}
	}
}

// Of a group in which a server stands twice the unlike ones count, as for every proposer; of none nobody is asked.
func TestP1103Groups(t *testing.T) {
	c := chain.New(client, number, []int{4, 4, 2, 9, 2}, room)
	mustTell(t, "Begin", c.Begin(x, first, round), start.prepares()...)
	mustPassOver(t, c, start.promise(4), start.promise(4))
	mustTell(t, "the second one's promise", c.Take(start.promise(2)), start.second().accepts(x)...)
	c = chain.New(client, number, nil, room)
	mustTell(t, "Begin to nobody", c.Begin(x, first, round))
	mustTell(t, "Tick to nobody", c.Tick())
	mustGoOn(t, c, start)
	c = chain.New(client, number, []int{5}, room)
	c.Begin(x, first, round)
	mustTell(t, "the only promise", c.Take(start.promise(5)), start.second().tells(api.MAccept, stamp(first, client), x, 5)...)
	mustTell(t, "the only acceptance", c.Take(start.second().accepted(5)), start.second().tells(api.MLearned, stamp(0, 0), x, 5)...)
	mustEnd(t, c, api.Result{Entry: entry("plum", client, 4, 0), Instance: 1})
}

func TestP1102SecondBeginWhilePending(t *testing.T) {
	other := create(client, 5, "fig")
	for what, c := range map[string]*chain.Chain{"begun": begun(), "laying": laying(), "behind a bucket": behind(aBucket(5))} {
		was := toldBy(c)
		want := c.Tick()
		for _, m := range [][2]int{{first, round}, {first + 1, round + 1}, {0, 0}, {api.MaxNum, api.MaxNum}, {api.MaxNum + 1, 1}} {
			for _, again := range []api.Command{x, other, none} {
				mustTell(t, what+": a second Begin", c.Begin(again, m[0], m[1]))
				mustBe(t, c, was)
			}
		}
		mustTell(t, what+": Tick", c.Tick(), want...)
		mustNews(t, c)
	}
	c := laying()
	c.Begin(other, 50, 50)
	mustPassOver(t, c, start.second().accepted(2))
	mustTell(t, "the second acceptance", c.Take(start.second().accepted(4)), start.second().learned(x)...)
	mustEnd(t, c, api.Result{Entry: entry("plum", client, 4, 0), Instance: 1})
}

// At its edges a ballot or a round is one; past them x is done with ErrWorn. What was handed in counts as told, but nothing below 0 does.
func TestP1103BallotsAndRoundsAtBegin(t *testing.T) {
	numbers := []int{math.MinInt, -1, 0, 1, 2, api.MaxNum - 1, api.MaxNum, api.MaxNum + 1, math.MaxInt}
	right := func(n int) bool { return n >= 1 && n <= api.MaxNum }
	for _, b := range numbers {
		for _, r := range numbers {
			c := fresh()
			list := c.Begin(x, b, r)
			if right(b) && right(r) {
				mustTell(t, "Begin", list, ask{4, 1, b, r}.prepares()...)
				mustGoOn(t, c, ask{4, 1, b, r})
				continue
			}
			mustTell(t, "Begin", list)
			mustReach(t, c, max(b, 0), max(r, 0))
			mustEnd(t, c, api.Result{Err: api.ErrWorn})
			mustNews(t, c)
		}
	}
}

// A command that is done with ErrWorn is not pending: the next one is begun.
func TestP1103BeginBehindAWornOne(t *testing.T) {
	c := fresh()
	c.Begin(x, 0, 1)
	mustTell(t, "Begin", c.Begin(create(client, 5, "fig"), first, round), ask{5, 1, first, round}.prepares()...)
	mustGoOn(t, c, ask{5, 1, first, round})
}

func TestP1103TheLastInstance(t *testing.T) {
	const most = api.MaxInstance
	c := behind(aBucket(most - 1))
	a := start.anew(most)
	mustGoOn(t, c, a)
	mustPassOver(t, c, a.promise(2))
	mustTell(t, "the second promise", c.Take(a.promise(4)), a.second().accepts(x)...)
	mustPassOver(t, c, a.second().accepted(9))
	mustTell(t, "the second acceptance", c.Take(a.second().accepted(4)), a.second().learned(x)...)
	mustEnd(t, c, api.Result{Entry: entry("plum", client, 4, 0), Instance: most})
	mustNews(t, c, item{most, x})

	mustTell(t, "Begin where all are decided", c.Begin(create(client, 5, "ash"), 50, 60))
	mustReach(t, c, a.ballot, a.second().round)
	mustEnd(t, c, api.Result{Err: api.ErrWorn})
	mustNews(t, c)
}

// Another's command in the last instance leaves none for x.
func TestP1103NoInstanceIsLeft(t *testing.T) {
	const most = api.MaxInstance
	c := behind(aBucket(most - 1))
	a := start.anew(most)
	mustPassOver(t, c, a.known(2, create(9, 5, "ash")))
	mustReach(t, c, a.ballot, a.round)
	mustNews(t, c, item{most, create(9, 5, "ash")})
	if b := c.Bucket(); b.Upto != most || len(b.Entries) != 3 {
		t.Fatalf("%+v", b)
	}
	mustEnd(t, c, api.Result{Err: api.ErrWorn})

	c = behind(aBucket(most - 1))
	mustPassOver(t, c, a.holding(2, stamp(1, 9), y))
	c.Take(a.promise(9))
	mustPassOver(t, c, a.second().accepted(9))
	mustTell(t, "the second acceptance", c.Take(a.second().accepted(2)), a.second().learned(y)...)
	mustEnd(t, c, api.Result{Err: api.ErrWorn})
}

func TestP1103TrimmedUpToTheLastInstance(t *testing.T) {
	const most = api.MaxInstance
	c := begun()
	mustPassOver(t, c, start.trimmed(2, aBucket(most)))
	mustReach(t, c, first, round)
	mustEnd(t, c, api.Result{Err: api.ErrWorn})
	if !sameBucket(c.Bucket(), aBucket(most)) {
		t.Fatalf("%+v", c.Bucket())
	}
	for _, numbers := range [][2]int{{50, 60}, {0, 0}, {api.MaxNum + 1, 1}} {
		mustTell(t, "Begin", c.Begin(create(client, 5, "ash"), numbers[0], numbers[1]))
		mustReach(t, c, first, round)
		mustEnd(t, c, api.Result{Err: api.ErrWorn})
	}
	c = begun()
	mustPassOver(t, c, start.trimmed(2, with(aBucket(most), last(4, most, api.OK, file(7, 4), 0))))
	mustEnd(t, c, api.Result{Entry: entry("plum", 7, 4, 0), Instance: most})
}

// One command behind the other: each in the instance behind what was learned, with the ballot and round that it is handed.
func TestP1102OneBehindTheOther(t *testing.T) {
	c := fresh()
	var entries []api.Entry
	for i, name := range []string{"a", "b", "c", "d"} {
		command := create(client, 10+i, name)
		a := ask{10 + i, i + 1, 5 * (i + 1), 7 * (i + 1)}
		mustTell(t, "Begin", c.Begin(command, a.ballot, a.round), a.prepares()...)
		mustGoOn(t, c, a)
		mustPassOver(t, c, a.promise(2))
		mustTell(t, "Take", c.Take(a.promise(9)), a.second().accepts(command)...)
		mustPassOver(t, c, a.second().accepted(9))
		mustTell(t, "Take", c.Take(a.second().accepted(4)), a.second().learned(command)...)
		entries = append(entries, entry(name, client, 10+i, 0))
		mustBe(t, c, told{
			result: api.Result{Entry: entries[i], Instance: i + 1}, done: true, ballot: a.ballot, round: a.second().round,
			bucket: api.Bucket{Upto: i + 1, Entries: entries, Lasts: []api.Last{last(10+i, i+1, api.OK, file(client, 10+i), 0)}},
		})
		mustNews(t, c, item{i + 1, command})
	}
	a := ask{20, 5, 40, 50}
	mustTell(t, "Begin", c.Begin(list(client, 20), 40, 50), a.prepares()...)
	mustPassOver(t, c, a.known(4, list(client, 20)))
	mustEnd(t, c, api.Result{List: entries, Instance: 5})
}

// Numbers that are handed in below those of an elder command are taken as they are; Ballot and Round stay the greatest.
func TestP1107NumbersThatFall(t *testing.T) {
	c := begun()
	c.Take(start.known(2, x))
	mustReach(t, c, first, round)
	a := ask{5, 2, 1, 2}
	mustTell(t, "Begin", c.Begin(create(client, 5, "ash"), 1, 2), a.prepares()...)
	mustReach(t, c, first, round)
	mustTell(t, "MKnown", c.Take(a.known(2, y)), a.anew(3).prepares()...)
	mustReach(t, c, first, round)
	a = a.anew(3)
	mustPassOver(t, c, a.nack(4, 8, 8))
	mustReach(t, c, 8, round)
	mustTell(t, "Tick", c.Tick(), ask{5, 3, 9, 4}.prepares()...)
	mustReach(t, c, 9, round)
	mustPassOver(t, c, ask{5, 3, 9, 4}.known(2, create(client, 5, "ash")))
	mustReach(t, c, 9, round)
	for _, r := range []int{-4, 0, api.MaxNum + 4} {
		mustTell(t, "Begin", c.Begin(create(client, 6, "oak"), -7, r))
		mustReach(t, c, 9, slices.Max([]int{round, r}))
	}
}
