package proposer_test

import (
	"math"
	"testing"

	"cairn/api"
	"cairn/proposer"
)

func TestP904ItsOwnCommand(t *testing.T) {
	p := begun()
	mustTell(t, "Take", p.Take(promise(9, stamp(0, 0), none)))
	mustGoOn(t, p, first, round)
	mustTell(t, "the last Take", p.Take(promise(4, stamp(0, 0), none)), accepts(round+1, mine(), x, 4, 2, 9)...)
	mustGoOn(t, p, first, round+1)
}

// holding is a promise with what it tells as held.
type holding struct {
	from    int
	held    api.Stamp
	command api.Command
}

// mustChoose hands promises in: with the last one there are enough, and this is the command.
func mustChoose(t *testing.T, of plain, want api.Command, list ...holding) {
	t.Helper()
	p := of.real()
	p.Begin()
	for i, h := range list {
		told := p.Take(promise(h.from, h.held, h.command))
		if i < len(list)-1 {
			mustTell(t, "Take", told)
			continue
		}
		mustTell(t, "the last Take", told, accepts(round+1, mine(), want, of.start().group...)...)
	}
}

func TestP904TheGreatestHeld(t *testing.T) {
	for _, c := range []struct {
		a, b api.Stamp
		want api.Command
	}{
		{stamp(2, 9), stamp(1, 7), y},
		{stamp(1, 7), stamp(2, 9), z},
		{stamp(2, 1), stamp(1, 255), y}, // N ahead of Client
		{stamp(1, 255), stamp(2, 1), z},
		{stamp(2, 8), stamp(2, 9), z},
		{stamp(2, 9), stamp(2, 8), y},
		{stamp(0, 0), stamp(1, 1), z},
		{stamp(1, 1), stamp(0, 0), y},
		{stamp(0, 0), stamp(0, 0), x},
		{stamp(0, 0), stamp(0, 1), z}, // above {0, 0}, though it is no ballot
		{stamp(0, 1), stamp(0, 0), y},
		{stamp(0, 1), stamp(-1, 99), y},
		{stamp(0, -1), stamp(0, 0), x},
		{stamp(0, -1), stamp(0, -1), x},
		{stamp(-1, 9), stamp(-2, 9), x}, // all of them below {0, 0}
		{stamp(-1, 9), stamp(0, -9), x},
		{stamp(math.MinInt, math.MaxInt), stamp(0, 0), x},
		{stamp(1, math.MinInt), stamp(0, math.MaxInt), y},
		{stamp(math.MaxInt, 0), stamp(math.MaxInt, 1), z},
		{mine(), stamp(first, client-1), y}, // its own ballot, and those above: they are not looked at
		{mine(), stamp(first, client+1), z},
		{stamp(api.MaxNum, 1), stamp(api.MaxNum+1, 0), z},
	} {
		// In the group's order and against it: who answers first changes nothing.
		mustChoose(t, usual(), c.want, holding{4, c.a, y}, holding{9, c.b, z})
		mustChoose(t, usual(), c.want, holding{9, c.b, z}, holding{4, c.a, y})
	}
}

// Of alike ones that of the first in the group's order counts, whoever answered first.
func TestP904AlikeOnes(t *testing.T) {
	for _, s := range []api.Stamp{stamp(1, 1), stamp(2, 9), stamp(0, 1), stamp(api.MaxNum, 255)} {
		mustChoose(t, usual(), y, holding{4, s, y}, holding{9, s, z})
		mustChoose(t, usual(), y, holding{9, s, z}, holding{4, s, y})
		mustChoose(t, usual(), z, holding{9, s, y}, holding{2, s, z}) // 2 stands ahead of 9
	}
	of := usual()
	of.group = []int{5, 1, 4, 2, 3}
	s := stamp(2, 9)
	mustChoose(t, of, y, holding{3, s, z}, holding{4, s, y}, holding{1, stamp(1, 9), x})
	mustChoose(t, of, z, holding{3, s, y}, holding{5, s, z}, holding{1, s, x})
	of.group = []int{5, 1, 4, 5, 2, 3, 2}
	mustChoose(t, of, z, holding{2, s, z}, holding{3, s, y}, holding{1, stamp(2, 8), x})
}

// What is told as held may be the zero command, or one that none is: it is the command all the same.
func TestP904WhateverCommandIsHeld(t *testing.T) {
	mustChoose(t, usual(), none, holding{4, stamp(1, 1), none}, holding{9, stamp(0, 0), y})
	odd := api.Command{Kind: -1, Client: math.MinInt, Name: "a/\x00", Size: math.MaxInt}
	mustChoose(t, usual(), odd, holding{4, stamp(1, 1), odd}, holding{9, stamp(0, 0), y})
	mustChoose(t, usual(), x, holding{4, stamp(0, 0), odd}, holding{9, stamp(0, 0), y})
}

// Only promises that count are gone through: neither one behind enough, nor what a refusal carries.
func TestP904AmongThoseThatCount(t *testing.T) {
	p := begun()
	refusal := nack(2, 2, 1)
	refusal.Held, refusal.Command = stamp(2, 9), z
	mustPassOver(t, p, refusal, promise(9, stamp(1, 1), y), promise(2, stamp(2, 9), z), promise(9, stamp(2, 9), z))
	mustTell(t, "the last Take", p.Take(promise(4, stamp(0, 0), none)), accepts(round+1, mine(), y, 4, 2, 9)...)
	mustPassOver(t, p, promise(2, stamp(2, 9), z))
	mustTell(t, "Tick", p.Tick(), accepts(round+1, mine(), y, 4, 2, 9)...)
}

// A command that was found in one round is not kept for the next one: there what is held then counts.
func TestP904AnewWithoutWhatWasFound(t *testing.T) {
	anew := func(from int, held api.Stamp, c api.Command) api.Msg {
		return inRound(atBallot(promise(from, held, c), stamp(5, client)), round+2)
	}
	for _, c := range []struct {
		held api.Stamp
		want api.Command
	}{{stamp(0, 0), x}, {stamp(1, 1), z}, {stamp(4, 9), z}} {
		p := begun()
		mustPassOver(t, p, promise(4, stamp(2, 9), y))
		mustTell(t, "the last Take", p.Take(promise(9, stamp(0, 0), none)), accepts(round+1, mine(), y, 4, 2, 9)...)
		mustPassOver(t, p, inRound(nack(2, 4, 9), round+1))
		mustTell(t, "Tick", p.Tick(), prepares(round+2, stamp(5, client), 4, 2, 9)...)
		mustPassOver(t, p, anew(9, stamp(0, 0), none))
		mustTell(t, "the last Take", p.Take(anew(2, c.held, z)), accepts(round+3, stamp(5, client), c.want, 4, 2, 9)...)
	}
	p := begun() // of the promises of the round before none counts
	mustPassOver(t, p, promise(4, stamp(2, 9), y), nack(2, 4, 9))
	mustTell(t, "Tick", p.Tick(), prepares(round+1, stamp(5, client), 4, 2, 9)...)
	mustPassOver(t, p, inRound(anew(2, stamp(0, 0), none), round+1))
	mustTell(t, "the last Take", p.Take(inRound(anew(9, stamp(0, 0), none), round+1)), accepts(round+2, stamp(5, client), x, 4, 2, 9)...)
}

// The greatest Held of each three of five, with all orders of Helds.
func TestP904EveryOrderOfHelds(t *testing.T) {
	servers := []int{8, 3, 5, 1, 6}
	helds := []api.Stamp{stamp(0, 0), stamp(1, 2), stamp(1, 3), stamp(2, 1), stamp(1, 2)}
	of := usual()
	of.group = servers
	for a := range 5 {
		for b := range 5 {
			for c := range 5 {
				if a == b || b == c || a == c {
					continue
				}
				for turn := range helds {
					var row []step
					row = append(row, beginning)
					for _, i := range []int{a, b, c} {
						own := api.Command{Kind: api.CRemove, Client: 1 + i, Op: 1, Name: "held"}
						row = append(row, step{"Take", promise(servers[i], helds[(i+turn)%5], own)})
					}
					mustFollow(t, of, append(row, step{call: "Tick"})...)
				}
			}
		}
	}
}

func TestP904RoundsEnd(t *testing.T) {
	p := at(first, api.MaxNum-1)
	p.Begin()
	mustPassOver(t, p, inRound(promise(4, stamp(0, 0), none), api.MaxNum-1))
	mustTell(t, "the last Take", p.Take(inRound(promise(2, stamp(0, 0), none), api.MaxNum-1)), accepts(api.MaxNum, mine(), x, 4, 2, 9)...)
	mustGoOn(t, p, first, api.MaxNum)
	mustPassOver(t, p, inRound(accepted(9), api.MaxNum))
	mustTell(t, "the last Take", p.Take(inRound(accepted(4), api.MaxNum)), learned(api.MaxNum, x, 4, 2, 9)...)
	mustDecide(t, p, x, first, api.MaxNum)
	p = at(first, api.MaxNum)
	p.Begin()
	mustPassOver(t, p, inRound(promise(4, stamp(2, 9), y), api.MaxNum))
	mustGoOn(t, p, first, api.MaxNum)
	mustPassOver(t, p, inRound(promise(2, stamp(0, 0), none), api.MaxNum))
	mustWear(t, p, first, api.MaxNum)
}

func TestP905Decided(t *testing.T) {
	p := laying()
	mustTell(t, "Take", p.Take(accepted(9)))
	mustGoOn(t, p, first, round+1)
	mustTell(t, "the last Take", p.Take(accepted(4)), learned(round+1, x, 4, 2, 9)...)
	mustDecide(t, p, x, first, round+1)
}

func TestP905AnothersCommand(t *testing.T) {
	p := begun()
	mustPassOver(t, p, promise(9, stamp(2, 9), y))
	mustTell(t, "the last Take", p.Take(promise(2, stamp(1, 3), z)), accepts(round+1, mine(), y, 4, 2, 9)...)
	mustPassOver(t, p, accepted(2))
	mustTell(t, "the last Take", p.Take(accepted(4)), learned(round+1, y, 4, 2, 9)...)
	mustDecide(t, p, y, first, round+1)
}

// A refusal between them does not keep others from being enough.
func TestP905BesideARefusal(t *testing.T) {
	p := begun()
	mustPassOver(t, p, nack(2, 8, 1), promise(9, stamp(0, 0), none))
	mustTell(t, "the last Take", p.Take(promise(4, stamp(0, 0), none)), accepts(round+1, mine(), x, 4, 2, 9)...)
	mustTell(t, "Tick", p.Tick(), accepts(round+1, mine(), x, 4, 2, 9)...) // the refusal was one of the round before
	mustPassOver(t, p, inRound(nack(4, 6, 1), round+1), accepted(9))
	mustGoOn(t, p, 8, round+1)
	mustTell(t, "the last Take", p.Take(accepted(2)), learned(round+1, x, 4, 2, 9)...)
	mustDecide(t, p, x, 8, round+1)
}

// Behind a ballot that was raised the second phase is one of that ballot.
func TestP905BehindARaisedBallot(t *testing.T) {
	p := begun()
	mustPassOver(t, p, nack(2, 8, 1))
	mustTell(t, "Tick", p.Tick(), prepares(round+1, stamp(9, client), 4, 2, 9)...)
	for _, id := range []int{2, 4} {
		list := p.Take(inRound(atBallot(promise(id, stamp(8, 1), y), stamp(9, client)), round+1))
		if id == 4 {
			mustTell(t, "the last Take", list, accepts(round+2, stamp(9, client), y, 4, 2, 9)...)
		}
	}
	mustPassOver(t, p, inRound(accepted(4), round+2), inRound(accepted(2), round+2)) // of the ballot before
	mustPassOver(t, p, inRound(atBallot(accepted(4), stamp(9, client)), round+2))
	mustTell(t, "the last Take", p.Take(inRound(atBallot(accepted(2), stamp(9, client)), round+2)), learned(round+2, y, 4, 2, 9)...)
	mustDecide(t, p, y, 9, round+2)
}

// However many refuse, nothing is told, and each N is noted.
func TestP906RefusalsAreNoted(t *testing.T) {
	for _, c := range []struct{ n, ballot int }{
		{math.MinInt, first}, {-1, first}, {0, first}, {first - 1, first}, {first, first}, {first + 1, first + 1},
		{api.MaxNum - 1, api.MaxNum - 1}, {api.MaxNum, api.MaxNum}, {api.MaxNum + 1, api.MaxNum + 1}, {math.MaxInt, math.MaxInt},
	} {
		for _, who := range []int{0, 9, 255, math.MaxInt} {
			p := begun()
			mustPassOver(t, p, nack(4, c.n, who))
			mustGoOn(t, p, c.ballot, round)
			mustPassOver(t, p, nack(2, c.n-1, who), nack(9, 1, who))
			if c.n > math.MinInt {
				mustGoOn(t, p, c.ballot, round)
			}
			p = laying()
			mustPassOver(t, p, inRound(nack(4, c.n, who), round+1))
			mustGoOn(t, p, c.ballot, round+1)
		}
	}
}

func TestP906TheGreatestOfSome(t *testing.T) {
	p := begun()
	for i, c := range []struct{ n, ballot int }{{2, first}, {8, 8}, {5, 8}} {
		mustPassOver(t, p, nack(group()[i], c.n, 1))
		mustGoOn(t, p, c.ballot, round)
	}
	// All have answered: nobody is left to be asked but by a tick, which raises the ballot.
	mustPassOver(t, p, promise(4, stamp(0, 0), none), promise(2, stamp(0, 0), none), promise(9, stamp(0, 0), none))
	mustTell(t, "Tick", p.Tick(), prepares(round+1, stamp(9, client), 4, 2, 9)...)
}

// phases are proposers in each phase, and in which round each stands.
func phases() map[string]func() (*proposer.Proposer, int, int) {
	return map[string]func() (*proposer.Proposer, int, int){
		"first": func() (*proposer.Proposer, int, int) { return begun(), first, round },
		"first, behind an answer of each kind": func() (*proposer.Proposer, int, int) {
			p := begun()
			p.Take(promise(4, stamp(2, 9), z))
			p.Take(nack(2, 8, 1))
			return p, 8, round
		},
		"second": func() (*proposer.Proposer, int, int) { return laying(), first, round + 1 },
		"second, behind an answer of each kind": func() (*proposer.Proposer, int, int) {
			p := laying()
			p.Take(accepted(4))
			p.Take(inRound(nack(2, 8, 1), round+1))
			return p, 8, round + 1
		},
		"first, anew": func() (*proposer.Proposer, int, int) {
			p := laying()
			p.Take(inRound(nack(2, 8, 1), round+1))
			p.Tick()
			return p, 9, round + 2
		},
	}
}

// From whichever server, one that has answered too, and whatever stands in them.
func TestP907Known(t *testing.T) {
	odd := api.Command{Kind: 99, Client: -1, Op: math.MaxInt, Name: "/"}
	for name, in := range phases() {
		for _, id := range group() {
			for _, c := range []api.Command{x, y, none, odd} {
				p, ballot, round := in()
				mustTell(t, name+": Take of an MKnown", p.Take(inRound(known(id, c), round)))
				mustDecide(t, p, c, ballot, round)
			}
		}
	}
}

func TestP907Bucket(t *testing.T) {
	odd := api.Bucket{Upto: -5, Entries: []api.Entry{{Name: "b"}, {Name: "a", Size: -1}, {Name: "a"}}, Lasts: []api.Last{{Client: 999}, {}, {}}}
	for name, in := range phases() {
		for _, id := range group() {
			for _, b := range []api.Bucket{aBucket(), {}, {Upto: 1}, odd} {
				p, ballot, round := in()
				mustTell(t, name+": Take of an MBucket", p.Take(inRound(trimmed(id, b), round)))
				mustTrim(t, p, b, ballot, round)
			}
		}
	}
}

// Whichever comes first is the end: the other one is behind it.
func TestP907TheFirstOfBoth(t *testing.T) {
	p := begun()
	mustPassOver(t, p, known(4, y), trimmed(2, aBucket()), known(9, z))
	mustDecide(t, p, y, first, round)
	p = begun()
	mustPassOver(t, p, trimmed(2, aBucket()), known(4, y), trimmed(9, api.Bucket{Upto: 9}))
	mustTrim(t, p, aBucket(), first, round)
}
