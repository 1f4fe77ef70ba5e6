package proposer_test

import (
	"math"
	"slices"
	"testing"

	"cairn/api"
	"cairn/proposer"
)

// edges are numbers of a ballot or a round that may be, and that may not.
func edges() (may, mayNot []int) {
	return []int{1, 2, 3, api.MaxNum - 1, api.MaxNum}, []int{math.MinInt, -api.MaxNum, -1, 0, api.MaxNum + 1, api.MaxNum + 2, math.MaxInt}
}

// at is a usual one, with this ballot and in this round.
func at(ballot, round int) *proposer.Proposer {
	return proposer.New(client, op, key, group(), x, ballot, round)
}

func TestP901NotBegun(t *testing.T) {
	mustGoOn(t, fresh(), first, round)
	may, mayNot := edges()
	for _, ballot := range append(may, mayNot...) {
		for _, round := range append(may, mayNot...) {
			mustGoOn(t, at(ballot, round), ballot, round)
		}
	}
}

func TestP902Begin(t *testing.T) {
	p := fresh()
	mustTell(t, "Begin", p.Begin(), prepares(round, mine(), 4, 2, 9)...)
	mustGoOn(t, p, first, round)
}

func TestP902BallotsAndRoundsThatMayBe(t *testing.T) {
	may, _ := edges()
	for _, ballot := range may {
		for _, round := range may {
			p := at(ballot, round)
			mustTell(t, "Begin", p.Begin(), prepares(round, stamp(ballot, client), 4, 2, 9)...)
			mustGoOn(t, p, ballot, round)
			mustTell(t, "Tick", p.Tick(), prepares(round, stamp(ballot, client), 4, 2, 9)...)
		}
	}
}

func TestP902BallotsAndRoundsThatMayNotBe(t *testing.T) {
	may, mayNot := edges()
	wears := func(ballot, round int) {
		p := at(ballot, round)
		mustTell(t, "Begin", p.Begin())
		mustWear(t, p, ballot, round)
		empty := proposer.New(client, op, key, nil, x, ballot, round)
		mustTell(t, "Begin", empty.Begin())
		mustWear(t, empty, ballot, round)
	}
	for _, no := range mayNot {
		for _, yes := range may {
			wears(no, yes)
			wears(yes, no)
		}
		for _, other := range mayNot {
			wears(no, other)
		}
	}
}

func TestP902SecondBegin(t *testing.T) {
	p := begun()
	for range 3 {
		mustTell(t, "a second Begin", p.Begin())
		mustGoOn(t, p, first, round)
		mustTell(t, "Tick", p.Tick(), prepares(round, mine(), 4, 2, 9)...)
	}
	mustPassOver(t, p, promise(2, stamp(0, 0), none))
	mustTell(t, "a second Begin", p.Begin())
	mustTell(t, "Tick", p.Tick(), prepares(round, mine(), 4, 9)...) // what was taken is still taken
	mustTell(t, "the last Take", p.Take(promise(4, stamp(0, 0), none)), accepts(round+1, mine(), x, 4, 2, 9)...)
	mustTell(t, "Begin in the second phase", p.Begin())
	mustGoOn(t, p, first, round+1)
	mustPassOver(t, p, accepted(9))
	mustTell(t, "Begin in the second phase", p.Begin())
	mustTell(t, "Tick", p.Tick(), accepts(round+1, mine(), x, 4, 2)...)
	mustPassOver(t, p, inRound(nack(2, 8, 1), round+1))
	mustTell(t, "Begin behind a refusal", p.Begin())
	mustTell(t, "Tick", p.Tick(), prepares(round+2, stamp(9, client), 4, 2, 9)...)
	mustTell(t, "Begin in the first phase anew", p.Begin())
	mustGoOn(t, p, 9, round+2)
}

func TestP902AheadOfBegin(t *testing.T) {
	p := fresh()
	for range 2 {
		mustTell(t, "Tick ahead of Begin", p.Tick())
		for _, id := range group() {
			for _, in := range []int{round, round + 1} {
				mustPassOver(t, p, inRound(promise(id, stamp(2, 9), y), in), inRound(accepted(id), in), inRound(nack(id, 8, 1), in),
					inRound(known(id, y), in), inRound(trimmed(id, aBucket()), in))
			}
		}
		mustGoOn(t, p, first, round)
	}
	// Those answers were not taken: all are asked, and all may answer.
	mustTell(t, "Begin", p.Begin(), prepares(round, mine(), 4, 2, 9)...)
	mustTell(t, "Tick", p.Tick(), prepares(round, mine(), 4, 2, 9)...)
	mustPassOver(t, p, promise(4, stamp(0, 0), none))
	mustTell(t, "Tick", p.Tick(), prepares(round, mine(), 2, 9)...)
	mustTell(t, "the last Take", p.Take(promise(2, stamp(0, 0), none)), accepts(round+1, mine(), x, 4, 2, 9)...)
}

// One whose numbers may not be is worn behind its Begin, not ahead of it.
func TestP902NotWornAheadOfBegin(t *testing.T) {
	p := at(0, 0)
	mustTell(t, "Tick ahead of Begin", p.Tick())
	mustPassOver(t, p, inRound(known(4, y), 0), inRound(trimmed(2, aBucket()), 0), inRound(nack(9, 8, 1), 0))
	mustGoOn(t, p, 0, 0)
	mustTell(t, "Begin", p.Begin())
	mustWear(t, p, 0, 0)
}

// Whoever the client, and whatever the op, the key and the command: they are on the messages.
func TestP902WhateverMayNotBe(t *testing.T) {
	for _, n := range []int{math.MinInt, -1, 0, 1, 255, 256, api.MaxNum + 1, math.MaxInt} {
		odd := api.Command{Kind: n, Client: n, Op: n, Name: "a/b\x00", File: api.File{Client: n}, New: api.File{Op: n}, Size: n}
		for _, k := range []api.Key{{}, {Kind: -1, A: n, B: n, C: n}, {Kind: api.KBucket, A: 3}, {Kind: api.KInstance, A: 1, B: n}} {
			asOdd := func(list []api.Msg) []api.Msg {
				for i := range list {
					list[i].From.Id, list[i].Op, list[i].Key = n, n, k
				}
				return list
			}
			to := func(m api.Msg) api.Msg {
				m.To, m.Op, m.Key = user(n), n, k
				return m
			}
			p := proposer.New(n, n, k, group(), odd, first, round)
			s := stamp(first, n)
			mustTell(t, "Begin", p.Begin(), asOdd(prepares(round, s, 4, 2, 9))...)
			mustPassOver(t, p, to(atBallot(promise(4, stamp(0, 0), none), s)))
			mustTell(t, "the last Take", p.Take(to(atBallot(promise(9, stamp(0, 0), none), s))), asOdd(accepts(round+1, s, odd, 4, 2, 9))...)
			mustPassOver(t, p, to(atBallot(accepted(4), s)))
			mustTell(t, "the last Take", p.Take(to(atBallot(accepted(9), s))), asOdd(learned(round+1, odd, 4, 2, 9))...)
			mustBe(t, p, told{command: odd, decided: true, ballot: first, round: round + 1})
		}
	}
}

// runAlone asks a proposer up to its end: servers of the group answer in its order. It tells how many MPromise and how many MAccepted that took.
func runAlone(t *testing.T, p machine, servers []int) (promises, acceptances int) {
	t.Helper()
	mustTell(t, "Begin", p.Begin(), prepares(round, mine(), servers...)...)
	var second []api.Msg
	for _, id := range servers {
		promises++
		if second = p.Take(promise(id, stamp(0, 0), none)); len(second) > 0 {
			break
		}
	}
	mustTell(t, "the last Take", second, accepts(round+1, mine(), x, servers...)...)
	var third []api.Msg
	for _, id := range servers {
		acceptances++
		if third = p.Take(accepted(id)); len(third) > 0 {
			break
		}
	}
	mustTell(t, "the last Take", third, learned(round+1, x, servers...)...)
	return promises, acceptances
}

func TestP902GroupAndNeed(t *testing.T) {
	for _, c := range []struct {
		group, unlike []int
		need          int
	}{
		{[]int{5}, []int{5}, 1},
		{[]int{5, 5, 5}, []int{5}, 1},
		{[]int{4, 2}, []int{4, 2}, 2},
		{[]int{4, 4, 2, 4}, []int{4, 2}, 2},
		{[]int{4, 2, 9}, []int{4, 2, 9}, 2},
		{[]int{9, 2, 2, 4, 9, 2}, []int{9, 2, 4}, 2},
		{[]int{4, 2, 9, 1}, []int{4, 2, 9, 1}, 3},
		{[]int{5, 4, 3, 2, 1}, []int{5, 4, 3, 2, 1}, 3},
		{[]int{5, 4, 3, 2, 1, 1, 2, 3, 4, 5, 5, 5}, []int{5, 4, 3, 2, 1}, 3},
		{[]int{1, 2, 3, 4, 5, 6}, []int{1, 2, 3, 4, 5, 6}, 4},
		{[]int{1, 2, 3, 4, 5, 6, 7}, []int{1, 2, 3, 4, 5, 6, 7}, 4},
		{[]int{0, -1, 256, 0, math.MaxInt, math.MinInt}, []int{0, -1, 256, math.MaxInt, math.MinInt}, 3},
	} {
		p := proposer.New(client, op, key, c.group, x, first, round)
		if promises, acceptances := runAlone(t, p, c.unlike); promises != c.need || acceptances != c.need {
			t.Fatalf("group %v: it takes %d MPromise and %d MAccepted, not %d", c.group, promises, acceptances, c.need)
		}
		mustDecide(t, p, x, first, round+1)
	}
}

// Of a group of none one answer is needed, and nobody gives it.
func TestP902GroupOfNone(t *testing.T) {
	for _, nobody := range [][]int{nil, {}} {
		p := proposer.New(client, op, key, nobody, x, first, round)
		mustTell(t, "Begin", p.Begin())
		for _, id := range []int{0, 4, 2, 9} {
			mustPassOver(t, p, promise(id, stamp(0, 0), none), accepted(id), inRound(accepted(id), round), nack(id, 8, 1), known(id, y), trimmed(id, aBucket()))
			mustTell(t, "Tick", p.Tick())
			mustGoOn(t, p, first, round)
		}
	}
}

// A proposer that New did not make is one of nothing: its numbers are none.
func TestP1OfNothing(t *testing.T) {
	var p proposer.Proposer
	mustTell(t, "Tick", p.Tick())
	mustPassOver(t, &p, api.Msg{}, api.Msg{Kind: api.MKnown, To: user(0)}, api.Msg{Kind: api.MPromise})
	mustGoOn(t, &p, 0, 0)
	mustTell(t, "Begin", p.Begin())
	mustWear(t, &p, 0, 0)
}

// More servers than there are ids, so that no order of a map's own stays unseen.
func TestP902GreatGroup(t *testing.T) {
	const count = 1001
	var servers []int
	for i := range 2 * count {
		servers = append(servers, i*100%count)
	}
	p := proposer.New(client, op, key, servers, x, first, round)
	servers = servers[:count]
	mustTell(t, "Begin", p.Begin(), prepares(round, mine(), servers...)...)
	var missing []int
	for i, id := range servers {
		if i%2 == 0 && i < count-1 {
			mustPassOver(t, p, promise(id, stamp(1, 1+i%5), []api.Command{x, y, z, y, z}[i%5]))
		} else {
			missing = append(missing, id)
		}
	}
	mustTell(t, "Tick", p.Tick(), prepares(round, mine(), missing...)...)
	mustTell(t, "the last Take", p.Take(promise(servers[count-1], stamp(1, 4), x)), accepts(round+1, mine(), z, servers...)...)
	for _, id := range slices.Backward(servers[count/2:]) {
		if list := p.Take(accepted(id)); len(list) > 0 {
			mustTell(t, "the last Take", list, learned(round+1, z, servers...)...)
		}
	}
	mustBe(t, p, told{command: z, decided: true, ballot: first, round: round + 1})
}
