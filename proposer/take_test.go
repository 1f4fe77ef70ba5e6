package proposer_test

import (
	"math"
	"strconv"
	"testing"

	"cairn/api"
	"cairn/proposer"
)

// strays are messages like this one, each of which is for another in one thing; with the reason.
func strays(m api.Msg) map[string]api.Msg {
	list := map[string]api.Msg{}
	add := func(why string, change func(x *api.Msg)) {
		x := m
		change(&x)
		list[why] = x
	}
	for kind := -1; kind <= 23; kind++ {
		if kind < api.MPromise || kind > api.MBucket {
			add("of the kind "+strconv.Itoa(kind), func(x *api.Msg) { x.Kind = kind })
		}
	}
	add("from a server of no group", func(x *api.Msg) { x.From.Id = 1 })
	add("from the server 0", func(x *api.Msg) { x.From.Id = 0 })
	add("from a server below 0", func(x *api.Msg) { x.From.Id = -x.From.Id })
	add("from a server far above", func(x *api.Msg) { x.From.Id += 256 })
	add("from a client", func(x *api.Msg) { x.From.Client = true })
	add("from the client itself", func(x *api.Msg) { x.From = user(client) })
	add("from nobody", func(x *api.Msg) { x.From = api.Addr{} })
	add("to another client", func(x *api.Msg) { x.To.Id = 8 })
	add("to a server", func(x *api.Msg) { x.To.Client = false })
	add("to a server of the group", func(x *api.Msg) { x.To = server(4) })
	add("to nobody", func(x *api.Msg) { x.To = api.Addr{} })
	for why, by := range map[string]int{"below": -1, "above": 1, "far below": math.MinInt, "far above": 1 << 40} {
		add("of an op "+why, func(x *api.Msg) { x.Op += by })
		add("of a round "+why, func(x *api.Msg) { x.Round += by })
		add("of a key's kind "+why, func(x *api.Msg) { x.Key.Kind += by })
		add("of a key's A "+why, func(x *api.Msg) { x.Key.A += by })
		add("of a key's B "+why, func(x *api.Msg) { x.Key.B += by })
		add("of a key's C "+why, func(x *api.Msg) { x.Key.C += by })
	}
	add("of no op", func(x *api.Msg) { x.Op = 0 })
	add("of no round", func(x *api.Msg) { x.Round = 0 })
	add("of no key", func(x *api.Msg) { x.Key = api.Key{} })
	add("of none", func(x *api.Msg) { *x = api.Msg{} })
	add("of nothing but a kind", func(x *api.Msg) { *x = api.Msg{Kind: x.Kind} })
	return list
}

// others are ballots that are not this one, near it and far off.
func others(s api.Stamp) []api.Stamp {
	return []api.Stamp{
		{}, {N: s.N}, {Client: s.Client}, stamp(s.N-1, s.Client), stamp(s.N+1, s.Client), stamp(s.N, s.Client-1), stamp(s.N, s.Client+1),
		stamp(-s.N, s.Client), stamp(s.N, -s.Client), stamp(s.Client, s.N), stamp(math.MaxInt, math.MaxInt), stamp(math.MinInt, math.MinInt),
	}
}

// mustStray hands in all that is not for one in this round at this ballot, of each kind that might be.
func mustStray(t *testing.T, p machine, ballot api.Stamp, round int, more ...api.Msg) {
	t.Helper()
	was := toldBy(p)
	for kind := api.MPromise; kind <= api.MBucket; kind++ {
		m := inRound(answer(kind, 9, ballot), round)
		m.Held, m.Command, m.Bucket = stamp(2, 9), z, api.Bucket{Upto: 7}
		for why, stray := range strays(m) {
			if list := p.Take(stray); len(list) > 0 || !sameTold(toldBy(p), was) {
				t.Fatalf("Take of a message of the kind %d %s tells %v, and behind it: %+v", kind, why, list, toldBy(p))
			}
		}
		if kind != api.MPromise && kind != api.MAccepted {
			continue
		}
		for _, s := range others(ballot) {
			more = append(more, atBallot(m, s))
		}
	}
	for _, m := range more {
		if list := p.Take(m); len(list) > 0 || !sameTold(toldBy(p), was) {
			t.Fatalf("Take of %+v tells %v, and behind it: %+v", m, list, toldBy(p))
		}
	}
}

// Strays are handed in behind no answer, and behind the first one: neither takes a place.
func TestP903StraysOfTheFirstPhase(t *testing.T) {
	p := begun()
	early := []api.Msg{inRound(accepted(4), round), inRound(accepted(9), round), accepted(4), accepted(9)} // ahead of the second phase
	mustStray(t, p, mine(), round, early...)
	mustTell(t, "Tick", p.Tick(), prepares(round, mine(), 4, 2, 9)...)
	mustPassOver(t, p, promise(2, stamp(1, 1), y))
	mustStray(t, p, mine(), round, early...)
	mustTell(t, "Tick", p.Tick(), prepares(round, mine(), 4, 9)...)
	mustTell(t, "the last Take", p.Take(promise(9, stamp(0, 0), none)), accepts(round+1, mine(), y, 4, 2, 9)...)
}

func TestP903StraysOfTheSecondPhase(t *testing.T) {
	p := laying()
	var late []api.Msg // promises behind the first phase, of this round and of the one before
	for _, id := range group() {
		late = append(late, promise(id, stamp(2, 9), y), inRound(promise(id, stamp(2, 9), y), round+1), inRound(accepted(id), round),
			nack(id, 8, 1), known(id, y), trimmed(id, aBucket()))
	}
	mustStray(t, p, mine(), round+1, late...)
	mustTell(t, "Tick", p.Tick(), accepts(round+1, mine(), x, 4, 2, 9)...)
	mustPassOver(t, p, accepted(2))
	mustStray(t, p, mine(), round+1, late...)
	mustTell(t, "Tick", p.Tick(), accepts(round+1, mine(), x, 4, 9)...)
	mustTell(t, "the last Take", p.Take(accepted(9)), learned(round+1, x, 4, 2, 9)...)
}

// In the first phase anew nothing of the rounds and of the ballot before is for it.
func TestP903StraysOfTheFirstPhaseAnew(t *testing.T) {
	p := laying()
	mustPassOver(t, p, inRound(nack(4, 8, 1), round+1))
	p.Tick()
	var late []api.Msg
	for _, id := range group() {
		late = append(late, promise(id, stamp(2, 9), y), inRound(promise(id, stamp(2, 9), y), round+2), accepted(id),
			inRound(accepted(id), round+2), inRound(atBallot(accepted(id), stamp(9, client)), round+2),
			inRound(nack(id, 99, 1), round+1), inRound(known(id, y), round+1), inRound(trimmed(id, aBucket()), round+1))
	}
	mustStray(t, p, stamp(9, client), round+2, late...)
	mustTell(t, "Tick", p.Tick(), prepares(round+2, stamp(9, client), 4, 2, 9)...)
	anew := func(from int) api.Msg {
		return inRound(atBallot(promise(from, stamp(0, 0), none), stamp(9, client)), round+2)
	}
	mustPassOver(t, p, anew(4))
	mustTell(t, "the last Take", p.Take(anew(9)), accepts(round+3, stamp(9, client), x, 4, 2, 9)...)
}

// An answer of a server one of whose was taken in this round is passed over, be it the same or another.
func TestP903SecondAnswerOfAServer(t *testing.T) {
	p := begun()
	mustPassOver(t, p, promise(2, stamp(1, 1), y))
	for range 3 {
		mustPassOver(t, p, promise(2, stamp(1, 1), y), promise(2, stamp(2, 9), z), promise(2, stamp(0, 0), none), nack(2, 8, 1))
		mustGoOn(t, p, first, round) // what it refused behind its promise is not noted
		mustTell(t, "Tick", p.Tick(), prepares(round, mine(), 4, 9)...)
	}
	mustTell(t, "the last Take", p.Take(promise(9, stamp(0, 0), none)), accepts(round+1, mine(), y, 4, 2, 9)...)
	mustPassOver(t, p, accepted(2)) // its answer to the first phase was one of another round
	for range 3 {
		mustPassOver(t, p, accepted(2), inRound(nack(2, 8, 1), round+1))
		mustGoOn(t, p, first, round+1)
		mustTell(t, "Tick", p.Tick(), accepts(round+1, mine(), y, 4, 9)...)
	}
	mustTell(t, "the last Take", p.Take(accepted(4)), learned(round+1, y, 4, 2, 9)...)
}

// One that has refused has answered: it neither promises nor accepts nor refuses again in the round.
func TestP903AnswerBehindARefusal(t *testing.T) {
	p := begun()
	mustPassOver(t, p, nack(2, 5, 1), promise(2, stamp(2, 9), y), nack(2, 8, 1))
	mustGoOn(t, p, 5, round)
	mustPassOver(t, p, promise(4, stamp(0, 0), none), promise(2, stamp(2, 9), y))
	mustGoOn(t, p, 5, round)
	mustTell(t, "the last Take", p.Take(promise(9, stamp(0, 0), none)), accepts(round+1, mine(), x, 4, 2, 9)...)
	mustPassOver(t, p, inRound(nack(9, 4, 1), round+1), accepted(9), inRound(nack(9, 8, 1), round+1), accepted(2), accepted(9))
	mustGoOn(t, p, 5, round+1)
	mustTell(t, "the last Take", p.Take(accepted(4)), learned(round+1, x, 4, 2, 9)...)
	mustDecide(t, p, x, 5, round+1)
}

// A server that stands in the group more than once has one answer.
func TestP903ServerTwiceInTheGroup(t *testing.T) {
	p := proposer.New(client, op, key, []int{4, 4, 2, 4, 9}, x, first, round)
	mustTell(t, "Begin", p.Begin(), prepares(round, mine(), 4, 2, 9)...)
	mustPassOver(t, p, promise(4, stamp(0, 0), none), promise(4, stamp(0, 0), none), promise(4, stamp(1, 1), y))
	mustTell(t, "Tick", p.Tick(), prepares(round, mine(), 2, 9)...)
	mustTell(t, "the last Take", p.Take(promise(9, stamp(0, 0), none)), accepts(round+1, mine(), x, 4, 2, 9)...)
	mustPassOver(t, p, accepted(4), accepted(4), accepted(4))
	mustGoOn(t, p, first, round+1)
	mustTell(t, "Tick", p.Tick(), accepts(round+1, mine(), x, 2, 9)...)
}

// Nothing else of a message is looked at: what its kind does not name may stand there.
func TestP903NothingElseIsLookedAt(t *testing.T) {
	extra := func(m api.Msg) api.Msg {
		m.More, m.Block = true, []byte("of no meaning")
		m.Commands = []api.Command{{Kind: -1}}
		if m.Kind != api.MBucket {
			m.Bucket = api.Bucket{Upto: 4, Entries: []api.Entry{{Name: "b"}}}
		}
		if m.Kind != api.MPromise {
			m.Held = stamp(77, 77)
		}
		if m.Kind != api.MPromise && m.Kind != api.MKnown {
			m.Command = z
		}
		if m.Kind == api.MKnown || m.Kind == api.MBucket {
			m.Stamp = stamp(99, 99)
		}
		return m
	}
	p := begun()
	mustPassOver(t, p, extra(promise(2, stamp(0, 0), y)), extra(nack(4, 2, 1)))
	mustTell(t, "the last Take", p.Take(extra(promise(9, stamp(0, 0), none))), accepts(round+1, mine(), x, 4, 2, 9)...)
	mustPassOver(t, p, extra(accepted(4)))
	mustTell(t, "the last Take", p.Take(extra(accepted(9))), learned(round+1, x, 4, 2, 9)...)
	mustDecide(t, p, x, first, round+1)
	p = begun()
	mustPassOver(t, p, extra(known(4, y)))
	mustDecide(t, p, y, first, round)
	p = begun()
	mustPassOver(t, p, extra(trimmed(4, aBucket())))
	mustTrim(t, p, aBucket(), first, round)
}
