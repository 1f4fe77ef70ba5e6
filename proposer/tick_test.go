package proposer_test

import (
	"math"
	"slices"
	"testing"

	"cairn/api"
	"cairn/proposer"
)

func TestP908AgainInTheFirstPhase(t *testing.T) {
	p := begun()
	for range 3 {
		mustTell(t, "Tick", p.Tick(), prepares(round, mine(), 4, 2, 9)...)
		mustGoOn(t, p, first, round)
	}
	mustPassOver(t, p, promise(2, stamp(0, 0), none))
	for range 3 {
		mustTell(t, "Tick", p.Tick(), prepares(round, mine(), 4, 9)...)
		mustGoOn(t, p, first, round)
	}
}

func TestP908AgainInTheSecondPhase(t *testing.T) {
	p := laying()
	for range 3 {
		mustTell(t, "Tick", p.Tick(), accepts(round+1, mine(), x, 4, 2, 9)...)
		mustGoOn(t, p, first, round+1)
	}
	mustPassOver(t, p, accepted(4))
	for range 3 {
		mustTell(t, "Tick", p.Tick(), accepts(round+1, mine(), x, 2, 9)...)
		mustGoOn(t, p, first, round+1)
	}
}

// five is one of five servers, three of whom are needed; in the second phase, if so.
func five(second bool) (p *proposer.Proposer, servers []int, at int) {
	servers = []int{5, 3, 1, 2, 4}
	p = proposer.New(client, op, key, servers, x, first, round)
	p.Begin()
	if !second {
		return p, servers, round
	}
	for _, id := range []int{1, 2, 3} {
		p.Take(promise(id, stamp(0, 0), none))
	}
	return p, servers, round + 1
}

// Behind each set of answers that is not enough, in each phase: those who are left are asked again; with a refusal among them all are asked anew.
func TestP908BehindEachNumberOfAnswers(t *testing.T) {
	for _, second := range []bool{false, true} {
		for agree := range 1 << 5 {
			for refuse := range 1 << 5 {
				p, servers, now := five(second)
				if agree&refuse != 0 {
					continue
				}
				var left, yes []int
				for i, id := range servers {
					if agree>>i&1 == 1 {
						yes = append(yes, id)
					} else if refuse>>i&1 == 0 {
						left = append(left, id)
					}
				}
				if len(yes) > 2 {
					continue
				}
				for i, id := range slices.Backward(servers) {
					if refuse>>i&1 == 1 {
						mustPassOver(t, p, inRound(nack(id, 10+i, 1), now))
					}
				}
				for _, id := range yes {
					mustPassOver(t, p, inRound(promise(id, stamp(1, 1), y), now), inRound(accepted(id), now))
				}
				switch {
				case refuse != 0:
					top := 10
					for i := range servers {
						if refuse>>i&1 == 1 {
							top = 10 + i
						}
					}
					mustGoOn(t, p, top, now)
					mustTell(t, "Tick behind a refusal", p.Tick(), prepares(now+1, stamp(top+1, client), servers...)...)
					mustGoOn(t, p, top+1, now+1)
					mustTell(t, "Tick behind that", p.Tick(), prepares(now+1, stamp(top+1, client), servers...)...)
				case second:
					mustTell(t, "Tick", p.Tick(), accepts(now, mine(), x, left...)...)
				default:
					mustTell(t, "Tick", p.Tick(), prepares(now, mine(), left...)...)
				}
			}
		}
	}
}

// The next ballot's N is one above the greatest of its own and of all that were noted since New.
func TestP908NotedNumbers(t *testing.T) {
	for _, c := range []struct{ n, next int }{
		{math.MinInt, first + 1}, {-1, first + 1}, {0, first + 1}, {first - 1, first + 1}, {first, first + 1}, {first + 1, first + 2},
		{100, 101}, {api.MaxNum - 2, api.MaxNum - 1}, {api.MaxNum - 1, api.MaxNum},
	} {
		p := begun()
		mustPassOver(t, p, nack(2, c.n, 99))
		mustTell(t, "Tick", p.Tick(), prepares(round+1, stamp(c.next, client), 4, 2, 9)...)
		mustGoOn(t, p, c.next, round+1)
		p = laying()
		mustPassOver(t, p, inRound(nack(9, c.n, 0), round+1))
		mustTell(t, "Tick", p.Tick(), prepares(round+2, stamp(c.next, client), 4, 2, 9)...)
		mustGoOn(t, p, c.next, round+2)
	}
}

// What was noted in earlier rounds counts too: behind a second phase that others brought about, and behind a raised ballot.
func TestP908NotedSinceNew(t *testing.T) {
	p := begun()
	mustPassOver(t, p, nack(2, 20, 1), promise(4, stamp(0, 0), none))
	mustTell(t, "the last Take", p.Take(promise(9, stamp(0, 0), none)), accepts(round+1, mine(), x, 4, 2, 9)...)
	mustGoOn(t, p, 20, round+1)
	mustPassOver(t, p, inRound(nack(4, 5, 1), round+1))
	mustTell(t, "Tick", p.Tick(), prepares(round+2, stamp(21, client), 4, 2, 9)...)
	mustPassOver(t, p, inRound(nack(4, 7, 1), round+2))
	mustGoOn(t, p, 21, round+2)
	mustTell(t, "Tick", p.Tick(), prepares(round+3, stamp(22, client), 4, 2, 9)...)
	mustGoOn(t, p, 22, round+3)
	mustTell(t, "Tick", p.Tick(), prepares(round+3, stamp(22, client), 4, 2, 9)...) // that refusal was one of the round before
	mustGoOn(t, p, 22, round+3)
}

// Round by round, refused in each.
func TestP908AgainAndAgain(t *testing.T) {
	p := begun()
	for i := range 50 {
		mustPassOver(t, p, inRound(nack(group()[i%3], first+2*i, 99), round+i))
		mustTell(t, "Tick", p.Tick(), prepares(round+i+1, stamp(first+2*i+1, client), 4, 2, 9)...)
		mustGoOn(t, p, first+2*i+1, round+i+1)
	}
}

func TestP908BallotsEnd(t *testing.T) {
	for _, n := range []int{api.MaxNum, api.MaxNum + 1, math.MaxInt - 1, math.MaxInt} {
		p := begun()
		mustPassOver(t, p, nack(2, n, 1))
		mustGoOn(t, p, n, round)
		mustTell(t, "Tick", p.Tick())
		mustWear(t, p, n, round)
		p = laying()
		mustPassOver(t, p, inRound(nack(2, n, 1), round+1))
		mustTell(t, "Tick", p.Tick())
		mustWear(t, p, n, round+1)
		// A refusal alone does not wear it: others may be enough.
		p = laying()
		mustPassOver(t, p, inRound(nack(2, n, 1), round+1), accepted(9))
		mustTell(t, "the last Take", p.Take(accepted(4)), learned(round+1, x, 4, 2, 9)...)
		mustDecide(t, p, x, n, round+1)
	}
	p := at(api.MaxNum, round)
	p.Begin()
	mustPassOver(t, p, nack(2, 1, 1))
	mustTell(t, "Tick", p.Tick())
	mustWear(t, p, api.MaxNum, round)
}

func TestP908RoundsEnd(t *testing.T) {
	p := at(first, api.MaxNum)
	p.Begin()
	for range 3 { // to ask again needs no other round
		mustTell(t, "Tick", p.Tick(), prepares(api.MaxNum, mine(), 4, 2, 9)...)
	}
	mustPassOver(t, p, inRound(nack(2, 8, 1), api.MaxNum))
	mustGoOn(t, p, 8, api.MaxNum)
	mustTell(t, "Tick", p.Tick())
	mustWear(t, p, 8, api.MaxNum)
	p = at(first, api.MaxNum-1)
	p.Begin()
	mustPassOver(t, p, inRound(nack(2, 8, 1), api.MaxNum-1))
	mustTell(t, "Tick", p.Tick(), prepares(api.MaxNum, stamp(9, client), 4, 2, 9)...)
	mustGoOn(t, p, 9, api.MaxNum)
	p = at(first, api.MaxNum-1) // in the second phase
	p.Begin()
	mustPassOver(t, p, inRound(promise(4, stamp(0, 0), none), api.MaxNum-1))
	mustTell(t, "the last Take", p.Take(inRound(promise(9, stamp(0, 0), none), api.MaxNum-1)), accepts(api.MaxNum, mine(), x, 4, 2, 9)...)
	mustTell(t, "Tick", p.Tick(), accepts(api.MaxNum, mine(), x, 4, 2, 9)...)
	mustPassOver(t, p, inRound(nack(2, 8, 1), api.MaxNum))
	mustTell(t, "Tick", p.Tick())
	mustWear(t, p, 8, api.MaxNum)
}

// Both at their end.
func TestP908BothEnds(t *testing.T) {
	p := at(api.MaxNum, api.MaxNum)
	mustTell(t, "Begin", p.Begin(), prepares(api.MaxNum, stamp(api.MaxNum, client), 4, 2, 9)...)
	mustPassOver(t, p, inRound(nack(2, 1, 1), api.MaxNum))
	mustTell(t, "Tick", p.Tick())
	mustWear(t, p, api.MaxNum, api.MaxNum)
}

// What each of these tells, step by step, from New to each of the ends.
func TestP909P910StepByStep(t *testing.T) {
	going := func(ballot, round int) told { return told{ballot: ballot, round: round} }
	p := fresh()
	for i, s := range []struct {
		step
		want told
	}{
		{step{call: "Tick"}, going(first, round)},
		{beginning, going(first, round)},
		{step{"Take", promise(2, stamp(2, 9), y)}, going(first, round)},
		{step{call: "Tick"}, going(first, round)},
		{step{"Take", nack(4, 6, 1)}, going(6, round)},
		{step{"Take", promise(9, stamp(0, 0), none)}, going(6, round+1)},
		{step{"Take", accepted(2)}, going(6, round+1)},
		{step{"Take", inRound(nack(9, 2, 1), round+1)}, going(6, round+1)},
		{step{call: "Tick"}, going(7, round+2)},
		{step{"Take", inRound(nack(9, 30, 1), round+2)}, going(30, round+2)},
		{step{call: "Tick"}, going(31, round+3)},
		{step{"Take", inRound(atBallot(promise(9, stamp(2, 9), y), stamp(31, client)), round+3)}, going(31, round+3)},
		{step{"Take", inRound(atBallot(promise(4, stamp(2, 9), y), stamp(31, client)), round+3)}, going(31, round+4)},
		{step{"Take", inRound(atBallot(accepted(4), stamp(31, client)), round+4)}, going(31, round+4)},
		{step{"Take", inRound(atBallot(accepted(2), stamp(31, client)), round+4)}, told{command: y, decided: true, ballot: 31, round: round + 4}},
	} {
		s.on(p)
		if is := toldBy(p); !sameTold(is, s.want) {
			t.Fatalf("behind the step %d it tells of itself %+v, not %+v", i, is, s.want)
		}
	}
	mustDecide(t, p, y, 31, round+4)
}

// What is told beside a false is none; at one end the others are not.
func TestP909OneEndAtATime(t *testing.T) {
	ends := map[string]*proposer.Proposer{"decided": laying(), "known": laying(), "trimmed": laying(), "worn": laying()}
	ends["decided"].Take(accepted(4))
	ends["decided"].Take(accepted(9))
	ends["known"].Take(inRound(known(4, x), round+1))
	ends["trimmed"].Take(inRound(trimmed(4, aBucket()), round+1))
	ends["worn"].Take(inRound(nack(4, math.MaxInt, 1), round+1))
	ends["worn"].Tick()
	want := map[string]told{
		"decided": {command: x, decided: true, ballot: first, round: round + 1},
		"known":   {command: x, decided: true, ballot: first, round: round + 1},
		"trimmed": {bucket: aBucket(), trimmed: true, ballot: first, round: round + 1},
		"worn":    {worn: true, ballot: math.MaxInt, round: round + 1},
	}
	for name, p := range ends {
		mustEnd(t, p, want[name])
	}
}
