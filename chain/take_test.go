package chain_test

import (
	"testing"

	"cairn/api"
	"cairn/chain"
)

// answers are all that a server of the group may say to what is asked.
func answers(a ask, from int) []api.Msg {
	return []api.Msg{
		a.promise(from), a.holding(from, stamp(2, 9), y), a.nack(from, 9, 9), a.accepted(from),
		a.known(from, y), a.known(from, x), a.trimmed(from, aBucket(a.instance+4)), a.trimmed(from, with(aBucket(a.instance+4), last(4, 1, api.OK, file(7, 4), 0))),
	}
}

func TestP1104AheadOfBegin(t *testing.T) {
	c := fresh()
	for range 2 {
		mustTell(t, "Tick", c.Tick())
		for _, id := range group() {
			mustPassOver(t, c, answers(start, id)...)
			mustPassOver(t, c, answers(ask{}, id)...)
		}
	}
	mustBe(t, c, told{})
	mustNews(t, c)
	mustTell(t, "Begin", c.Begin(x, first, round), start.prepares()...)
}

func TestP1104BehindTheEnd(t *testing.T) {
	ends := map[string]func() (*chain.Chain, ask){
		"decided": func() (*chain.Chain, ask) {
			c := laying()
			c.Take(start.second().accepted(4))
			c.Take(start.second().accepted(9))
			return c, start.second()
		},
		"known":   func() (*chain.Chain, ask) { c := begun(); c.Take(start.known(2, x)); return c, start },
		"trimmed": func() (*chain.Chain, ask) { return behind(with(aBucket(5), last(4, 3, api.OK, file(7, 4), 0))), start },
		"full":    func() (*chain.Chain, ask) { return behind(aBucket(api.MaxInstance)), start },
		"worn":    func() (*chain.Chain, ask) { c := fresh(); c.Begin(x, 1, 0); return c, ask{4, 1, 1, 0} },
	}
	for what, end := range ends {
		c, a := end()
		was := toldBy(c)
		news := newsOf(c.News())
		for range 2 {
			mustTell(t, what+": Tick", c.Tick())
			for _, id := range group() {
				for _, late := range []ask{a, start, start.second(), a.anew(a.instance), a.anew(a.instance + 1), a.anew(was.bucket.Upto + 1)} {
					mustPassOver(t, c, answers(late, id)...)
				}
			}
			mustBe(t, c, was)
			mustNews(t, c)
		}
		if !was.done || (what == "decided" || what == "known") != (len(news) == 1) {
			t.Fatalf("%s: %+v, %+v", what, was, news)
		}
	}
}

// others are messages that the proposer passes over: each is an answer but for one thing.
func others(a ask, from int) []api.Msg {
	var all []api.Msg
	for _, m := range answers(a, from) {
		for _, spoil := range []func(m *api.Msg){
			func(m *api.Msg) { m.Kind = api.MValue },
			func(m *api.Msg) { m.Kind = api.MLearned },
			func(m *api.Msg) { m.From.Id = 5 },
			func(m *api.Msg) { m.From.Client = true },
			func(m *api.Msg) { m.To.Id = 8 },
			func(m *api.Msg) { m.To.Client = false },
			func(m *api.Msg) { m.Op-- },
			func(m *api.Msg) { m.Op++ },
			func(m *api.Msg) { m.Round-- },
			func(m *api.Msg) { m.Round++ },
			func(m *api.Msg) { m.Key.A++ },
			func(m *api.Msg) { m.Key.B++ },
			func(m *api.Msg) { m.Key.B-- },
			func(m *api.Msg) { m.Key = api.Key{Kind: api.KBucket, A: number} },
		} {
			other := m
			spoil(&other)
			all = append(all, other)
		}
	}
	lower, higher := a, a
	lower.ballot--
	higher.ballot++
	return append(all, lower.promise(from), higher.promise(from), lower.accepted(from), higher.accepted(from))
}

func TestP1104WhatTheProposerPassesOver(t *testing.T) {
	for what, c := range map[string]*chain.Chain{"begun": begun(), "laying": laying(), "behind a bucket": behind(aBucket(5))} {
		a := map[string]ask{"begun": start, "laying": start.second(), "behind a bucket": start.anew(6)}[what]
		want := c.Tick()
		for _, id := range group() {
			mustPassOver(t, c, others(a, id)...)
		}
		if what == "laying" {
			mustPassOver(t, c, a.promise(4), a.promise(2), a.promise(9))
		} else {
			mustPassOver(t, c, a.accepted(4), a.accepted(2), a.accepted(9))
		}
		mustGoOn(t, c, a)
		mustNews(t, c)
		mustTell(t, what+": Tick", c.Tick(), want...)
		mustTell(t, what+": MKnown", c.Take(a.known(9, create(3, 3, "ash"))), a.anew(a.instance+1).prepares()...)
	}
}

// Answers of an instance that is behind the chain, in whatever round, at whatever ballot.
func TestP1104AnswersOfAnElderInstance(t *testing.T) {
	c := begun()
	c.Take(start.known(2, y))
	c.Take(start.anew(2).known(2, create(9, 2, "ash")))
	a := start.anew(2).anew(3)
	was := toldBy(c)
	for instance := range 3 {
		for _, old := range []ask{start, start.second(), start.anew(2), a} {
			for _, id := range group() {
				mustPassOver(t, c, answers(ask{4, instance, old.ballot, old.round}, id)...)
			}
		}
	}
	mustBe(t, c, was)
	mustNews(t, c, item{1, y}, item{2, create(9, 2, "ash")})
	mustTell(t, "Tick", c.Tick(), a.prepares()...)
}

// Answers of an elder command of the same client, in the same instance.
func TestP1104AnswersToAnElderCommand(t *testing.T) {
	c := begun()
	c.Take(start.known(2, x))
	a := ask{5, 2, 9, 20}
	c.Begin(create(client, 5, "fig"), 9, 20)
	for _, id := range group() {
		mustPassOver(t, c, answers(ask{4, 2, 9, 20}, id)...)
	}
	mustGoOn(t, c, a)
	mustPassOver(t, c, a.promise(4))
	mustTell(t, "Take", c.Take(a.promise(9)), a.second().accepts(create(client, 5, "fig"))...)
}

func TestP1104TickAsksThoseWhoHaveNotAnswered(t *testing.T) {
	c := begun()
	mustTell(t, "Tick", c.Tick(), start.prepares()...)
	mustPassOver(t, c, start.promise(2))
	mustTell(t, "Tick", c.Tick(), start.tells(api.MPrepare, stamp(first, client), none, 4, 9)...)
	c.Take(start.promise(4))
	mustTell(t, "Tick", c.Tick(), start.second().accepts(x)...)
	mustPassOver(t, c, start.second().accepted(9))
	mustTell(t, "Tick", c.Tick(), start.second().tells(api.MAccept, stamp(first, client), x, 4, 2)...)
	mustGoOn(t, c, start.second())
}

// A refused ballot is raised at the tick, in the same instance; what was noted counts at once.
func TestP1104TickBehindARefusal(t *testing.T) {
	c := begun()
	mustPassOver(t, c, start.nack(9, 20, 3))
	mustReach(t, c, 20, round)
	a := ask{4, 1, 21, round + 1}
	mustTell(t, "Tick", c.Tick(), a.prepares()...)
	mustGoOn(t, c, a)
	mustPassOver(t, c, start.promise(2), start.promise(4), a.promise(4))
	mustTell(t, "Take", c.Take(a.promise(9)), a.second().accepts(x)...)
	mustPassOver(t, c, a.second().nack(2, 30, 1), a.second().accepted(4))
	mustReach(t, c, 30, round+2)
	mustTell(t, "Take", c.Take(a.second().accepted(9)), a.second().learned(x)...)
	mustReach(t, c, 30, round+2)
	mustEnd(t, c, api.Result{Entry: entry("plum", client, 4, 0), Instance: 1})
}
