package proposer_test

import (
	"math"
	"math/rand"
	"testing"

	"cairn/api"
)

// step is one call of a proposer; of Take with its message.
type step struct {
	call string
	msg  api.Msg
}

func (s step) on(p machine) []api.Msg {
	switch s.call {
	case "Begin":
		return p.Begin()
	case "Tick":
		return p.Tick()
	}
	return p.Take(s.msg)
}

// mustFollow takes steps with a proposer, and with the chapter's words.
func mustFollow(t *testing.T, of plain, steps ...step) {
	p, want := of.real(), of.start()
	for i, s := range steps {
		if list, words := s.on(p), s.on(want); !sameMsgs(list, words) {
			t.Fatalf("%+v, at the last of %v: it tells\n%v, not\n%v", of, steps[:i+1], list, words)
		}
		if a, b := toldBy(p), toldBy(want); !sameTold(a, b) {
			t.Fatalf("%+v, behind %v: it tells of itself\n%+v, not\n%+v", of, steps[:i+1], a, b)
		}
	}
}

func everyRow(row []step, more int, of []step, do func([]step)) {
	if more == 0 {
		do(row)
		return
	}
	for _, s := range of {
		everyRow(append(row[:len(row):len(row)], s), more-1, of, do)
	}
}

// small is one of a group, with the first ballot and round that are usual.
func small(servers ...int) plain {
	p := usual()
	p.group = servers
	return p
}

// firstAnswers are those that servers 1 to 3 may give in the first phase, each its own.
func firstAnswers() []step {
	var list []step
	for id := 1; id <= 3; id++ {
		c := []api.Command{y, z, y}[id-1]
		list = append(list,
			step{"Take", promise(id, stamp(id%2, id%2), c)},
			step{"Take", nack(id, first+1-id, 9)})
	}
	return append(list, step{"Take", known(3, y)}, step{"Take", trimmed(1, api.Bucket{Upto: 5})})
}

func secondAnswers() []step {
	var list []step
	for id := 1; id <= 3; id++ {
		list = append(list, step{"Take", accepted(id)}, step{"Take", inRound(nack(id, first+id, 9), round+1)})
	}
	return append(list, step{"Take", inRound(known(2, z), round+1)}, step{"Take", inRound(trimmed(2, api.Bucket{Upto: 6}), round+1)})
}

func calls() []step { return []step{{call: "Begin"}, {call: "Tick"}} }

var beginning = step{call: "Begin"}

// Every row of four calls, begun or not, of those that may come in the first phase; and with some of the second one's among them.
func TestP902EveryRowFromTheBeginning(t *testing.T) {
	t.Parallel()
	near := append(append(calls(), firstAnswers()...), secondAnswers()[:3]...)
	for _, of := range []plain{small(1), small(2, 1), small(3, 1, 2), small(1, 1), small()} {
		everyRow(nil, 3, near, func(row []step) { mustFollow(t, of, row...) })
		everyRow([]step{beginning}, 4, near, func(row []step) { mustFollow(t, of, row...) })
	}
}

// Every row of four calls of those that may come in the second phase, and of the first one's.
func TestP904EveryRowOfTheSecondPhase(t *testing.T) {
	t.Parallel()
	near := append(append(calls(), secondAnswers()...), firstAnswers()[:3]...)
	var opened []step
	for id := 1; id <= 3; id++ {
		opened = append(opened, step{"Take", promise(id, stamp(id%2, id%2), y)})
	}
	for n, servers := range [][]int{{1}, {2, 1}, {3, 1, 2}, {1, 2, 2, 3}} {
		behind := append([]step{beginning}, opened[:[]int{1, 2, 2, 2}[n]]...)
		everyRow(behind, 4, near, func(row []step) { mustFollow(t, small(servers...), row...) })
	}
}

// oneOf is one of these.
func oneOf[T any](r *rand.Rand, list ...T) T { return list[r.Intn(len(list))] }

func anyProposer(r *rand.Rand) plain {
	p := usual()
	p.ballot = oneOf(r, first, first, first, first, 1, 0, api.MaxNum, api.MaxNum-1, api.MaxNum+1)
	p.round = oneOf(r, round, round, round, round, 1, 0, api.MaxNum, api.MaxNum-1, api.MaxNum-2, api.MaxNum+1)
	p.group = nil
	for range r.Intn(9) {
		p.group = append(p.group, r.Intn(5))
	}
	return p
}

func anyStamp(r *rand.Rand) api.Stamp {
	n := oneOf(r, 0, 0, 0, 1, 1, 2, 2, 2, 3, 3, 4, -1, api.MaxNum-1, api.MaxNum, api.MaxNum+1, math.MinInt, math.MaxInt)
	return stamp(n, oneOf(r, 0, 0, 1, 2, 8, 8, -1, 255))
}

// anyStep is mostly an answer to what is asked in the present round at the present ballot, or near it.
func anyStep(r *rand.Rand, now *plain) step {
	if n := r.Intn(12); n < 2 {
		return calls()[n]
	}
	m := promise(r.Intn(6), anyStamp(r), oneOf(r, x, y, z, none))
	m.Round, m.Stamp = now.round, stamp(now.ballot, now.client)
	switch r.Intn(32) {
	case 0, 1, 2:
		m.Kind, m.Stamp = api.MNack, anyStamp(r)
	case 3:
		m.Kind, m.Bucket = oneOf(r, api.MKnown, api.MBucket), aBucket()
	case 4:
		m.Kind = r.Intn(25)
	default:
		m.Kind = oneOf(r, api.MPromise, api.MAccepted)
	}
	switch r.Intn(24) {
	case 0:
		m.Round += oneOf(r, -1, 1)
	case 1:
		m.From.Client = true
	case 2:
		m.To.Id++
	case 3:
		m.Op--
	case 4:
		m.Key.B++
	case 5:
		m.Stamp.N += oneOf(r, -1, 1)
	case 6:
		m.Stamp.Client++
	}
	return step{"Take", m}
}

// Long rows of calls, with stamps, ballots, rounds and groups at their edges.
func TestP903ManyRowsOfCalls(t *testing.T) {
	t.Parallel()
	r := rand.New(rand.NewSource(9))
	ends := map[string]int{}
	for range 60000 {
		of := anyProposer(r)
		p, want := of.real(), of.start()
		if r.Intn(8) > 0 {
			mustTell(t, "Begin", p.Begin(), want.Begin()...)
		}
		for range 18 {
			s := anyStep(r, want)
			if list, words := s.on(p), s.on(want); !sameMsgs(list, words) {
				t.Fatalf("%+v, at %v: it tells\n%v, not\n%v", of, s, list, words)
			}
			if a, b := toldBy(p), toldBy(want); !sameTold(a, b) {
				t.Fatalf("%+v, behind %v: it tells of itself\n%+v, not\n%+v", of, s, a, b)
			}
		}
		if want.ballot != of.ballot {
			ends["raised"]++
		}
		if want.stage == inSecond {
			ends["in the second phase"]++
		}
		ends[want.end]++
	}
	for _, kind := range []string{"", "decided", "trimmed", "worn", "raised", "in the second phase"} {
		if ends[kind] < 1000 {
			t.Fatalf("too few rows of a kind: %v", ends)
		}
	}
}

// The same calls in the same order tell the same.
func TestP3SameAgain(t *testing.T) {
	for seed := range int64(200) {
		var first [][]api.Msg
		var itself []told
		for turn := range 5 {
			r := rand.New(rand.NewSource(seed))
			of := anyProposer(r)
			p, now := of.real(), of.start()
			list, tells := [][]api.Msg{p.Begin()}, []told{toldBy(p)}
			now.Begin()
			for range 18 {
				s := anyStep(r, now)
				s.on(now)
				list, tells = append(list, s.on(p)), append(tells, toldBy(p))
			}
			if turn == 0 {
				first, itself = list, tells
			}
			for i := range list {
				mustTell(t, "the same call again", list[i], first[i]...)
				if !sameTold(tells[i], itself[i]) {
					t.Fatalf("behind the same calls it tells of itself %+v, and %+v", tells[i], itself[i])
				}
			}
		}
	}
}
