package register_test

import (
	"math"
	"strconv"
	"testing"

	"cairn/api"
	"cairn/register"
	"cairn/tally"
)

// strays are messages like this one, each of which is for another in one thing; with the reason.
func strays(m api.Msg) map[string]api.Msg {
	list := map[string]api.Msg{}
	add := func(why string, change func(x *api.Msg)) {
		x := m
		change(&x)
		list[why] = x
	}
	for kind := -1; kind <= 23; kind++ {
		if kind != m.Kind {
			add("of the kind "+strconv.Itoa(kind), func(x *api.Msg) { x.Kind = kind })
		}
	}
	add("from a server of no group", func(x *api.Msg) { x.From.Id = 1 })
	add("from the server 0", func(x *api.Msg) { x.From.Id = 0 })
	add("from a server below 0", func(x *api.Msg) { x.From.Id = -x.From.Id })
	add("from a server far above", func(x *api.Msg) { x.From.Id += 256 })
	add("from a client", func(x *api.Msg) { x.From.Client = true })
	add("from the client itself", func(x *api.Msg) { x.From = user(client) })
	add("from nobody", func(x *api.Msg) { x.From = api.Addr{} })
	add("to another client", func(x *api.Msg) { x.To.Id = 8 })
	add("to a server", func(x *api.Msg) { x.To.Client = false })
	add("to a server of the group", func(x *api.Msg) { x.To = server(4) })
	add("to nobody", func(x *api.Msg) { x.To = api.Addr{} })
	for why, by := range map[string]int{"below": -1, "above": 1, "far below": math.MinInt, "far above": 1 << 40} {
		add("of an op "+why, func(x *api.Msg) { x.Op += by })
		add("of a round "+why, func(x *api.Msg) { x.Round += by })
		add("of a key's kind "+why, func(x *api.Msg) { x.Key.Kind += by })
		add("of a key's A "+why, func(x *api.Msg) { x.Key.A += by })
		add("of a key's B "+why, func(x *api.Msg) { x.Key.B += by })
		add("of a key's C "+why, func(x *api.Msg) { x.Key.C += by })
	}
	add("of no op", func(x *api.Msg) { x.Op = 0 })
	add("of no round", func(x *api.Msg) { x.Round = 0 })
	add("of no key", func(x *api.Msg) { x.Key = api.Key{} })
	add("of none", func(x *api.Msg) { *x = api.Msg{} })
	add("of nothing but a kind", func(x *api.Msg) { *x = api.Msg{Kind: x.Kind} })
	return list
}

// Each stray is handed in behind no answer, and behind the first one.
func TestP704StraysOfTheFirstPhase(t *testing.T) {
	for name, m := range both() {
		m.Begin()
		for turn := range 2 {
			for why, x := range strays(value(9, stamp(9, 9), "stray")) {
				mustTell(t, name+", Take of one "+why, m.Take(x))
				mustGoOn(t, m, round)
			}
			if turn == 0 {
				mustTell(t, "Tick", m.Tick(), queries(4, 2, 9)...)
				mustPassOver(t, m, value(2, stamp(3, 8), "xy"))
			}
		}
		mustTell(t, "Tick", m.Tick(), queries(4, 9)...)
		want := map[string][]api.Msg{"write": puts(stamp(4, client), "ab", 4, 2, 9), "read": puts(stamp(3, 8), "xy", 4, 2, 9)}
		mustTell(t, "the last Take", m.Take(value(9, stamp(2, 8), "q")), want[name]...)
	}
}

func TestP704StraysOfTheSecondPhase(t *testing.T) {
	for name, m := range both() {
		m.Begin()
		mustPassOver(t, m, value(2, stamp(3, 8), "xy"))
		m.Take(value(4, stamp(1, 1), "q"))
		for turn := range 2 {
			for why, x := range strays(ack(9)) {
				mustTell(t, name+", Take of one "+why, m.Take(x))
				mustGoOn(t, m, round+1)
			}
			mustPassOver(t, m, value(9, stamp(9, 9), "late"), inRound(ack(9), round))
			if list := m.Tick(); len(list) != 3-turn {
				t.Fatalf("Tick tells %v", list)
			}
			if turn == 0 {
				mustPassOver(t, m, ack(2))
			}
		}
		mustPassOver(t, m, ack(9))
		want := map[string]api.Result{"write": {Stamp: stamp(4, client)}, "read": {Stamp: stamp(3, 8), Data: []byte("xy")}}
		mustEnd(t, m, round+1, want[name])
	}
}

// Of a server one of whose answers was taken nothing more is, be it the same or another.
func TestP704SecondAnswerOfAServer(t *testing.T) {
	m := begun(writeOf("ab"))
	for range 3 {
		mustPassOver(t, m, value(2, stamp(3, 8), "xy"), value(2, stamp(9, 8), "other"), value(2, stamp(0, 0), ""))
		mustTell(t, "Tick", m.Tick(), queries(4, 9)...)
	}
	mustTell(t, "the last Take", m.Take(value(9, stamp(1, 1), "")), puts(stamp(4, client), "ab", 4, 2, 9)...)
	for range 3 {
		mustPassOver(t, m, ack(9), ack(9))
		mustTell(t, "Tick", m.Tick(), puts(stamp(4, client), "ab", 4, 2)...)
		mustGoOn(t, m, round+1)
	}
	mustPassOver(t, m, ack(2)) // its answer to the first phase was one of another round
	mustEnd(t, m, round+1, api.Result{Stamp: stamp(4, client)})
	read := begun(readOf(2))
	mustPassOver(t, read, value(9, stamp(3, 8), "xy"), value(9, stamp(5, 5), "late"), value(4, stamp(3, 8), "uv"))
	mustEnd(t, read, round, api.Result{Stamp: stamp(3, 8), Data: []byte("uv")})
}

// A server that stands in the group twice has one answer.
func TestP704ServerTwiceInTheGroup(t *testing.T) {
	for _, m := range []tally.Machine{
		register.Write(client, op, key, []int{4, 4, 2, 4, 9}, round, nil),
		register.Read(client, op, key, []int{4, 4, 2, 4, 9}, round, 2),
	} {
		m.Begin()
		mustPassOver(t, m, value(4, stamp(3, 8), "xy"), value(4, stamp(3, 8), "xy"), value(4, stamp(4, 8), "xy"))
		mustGoOn(t, m, round)
		mustTell(t, "Tick", m.Tick(), queries(2, 9)...)
	}
}

// Nothing else of a message is looked at: what its kind does not name may stand there.
func TestP704NothingElseIsLookedAt(t *testing.T) {
	extra := func(m api.Msg) api.Msg {
		m.Held, m.More = stamp(77, 77), true
		m.Command = api.Command{Kind: api.CCreate, Client: 1, Op: 1, Name: "a"}
		m.Bucket = api.Bucket{Upto: 4, Entries: []api.Entry{{Name: "b"}}}
		m.Commands = []api.Command{{Kind: -1}}
		return m
	}
	m := begun(writeOf("ab"))
	mustPassOver(t, m, extra(value(2, stamp(3, 8), "xy")))
	mustTell(t, "the last Take", m.Take(extra(value(9, stamp(1, 1), ""))), puts(stamp(4, client), "ab", 4, 2, 9)...)
	odd := extra(ack(4))
	odd.Stamp, odd.Block = stamp(99, 9), []byte("of no meaning")
	mustPassOver(t, m, odd, ack(9))
	mustEnd(t, m, round+1, api.Result{Stamp: stamp(4, client)})
	read := begun(readOf(2))
	mustPassOver(t, read, extra(value(2, stamp(3, 8), "xy")))
	mustTell(t, "the last Take", read.Take(extra(value(4, stamp(0, 0), "??"))), puts(stamp(3, 8), "xy", 4, 2, 9)...)
}

// Whatever client, op, key and servers a machine was handed: answers that carry them are for it.
func TestP704WhateverMayNotBe(t *testing.T) {
	for _, n := range []int{math.MinInt, -1, 0, 256, math.MaxInt} {
		k := api.Key{Kind: n, A: n, B: n, C: n}
		odd := func(m api.Msg, from int) api.Msg {
			m.From, m.To, m.Op, m.Key = server(from), user(n), n, k
			return m
		}
		m := register.Write(n, n, k, []int{n, 3, n}, round, []byte("ab"))
		m.Begin()
		mustPassOver(t, m, value(3, stamp(1, 1), ""), odd(value(0, stamp(1, 1), ""), 3))
		want := puts(stamp(2, n), "ab", n, 3)
		for i := range want {
			want[i].From, want[i].Op, want[i].Key = user(n), n, k
		}
		mustTell(t, "the last Take", m.Take(odd(value(0, stamp(0, 0), ""), n)), want...)
		mustPassOver(t, m, odd(ack(0), n), odd(ack(0), 3))
		mustEnd(t, m, round+1, api.Result{Stamp: stamp(2, n)})
	}
}
