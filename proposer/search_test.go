package proposer_test

import (
	"fmt"
	"slices"
	"strconv"
	"testing"

	"cairn/api"
)

// spot is a state that three acceptors (or one) and two proposers may come to. What each proposer has ever told is under way for ever, to every acceptor, so that a message may come as late and as often as it likes.
type spot struct {
	sides [2]*plain
	rows  [2][]step // the calls that brought each proposer there
	sent  [2][]api.Msg
	at    []api.Instance
}

// search goes through every such state with ballots up to a number. An answer is taken at once or never: to take it later shows a proposer nothing else, since what it tells then may come as late as it likes.
type search struct {
	wrong     string
	acceptors int
	ballots   [2]int // the first ones' N
	most      int    // the greatest N of a ballot
	every     int    // of so many states one is held against P912; 0: none

	seen  map[string]struct{}
	todo  []spot
	fault string
	took  map[[2]int]int // how often so many exchanges were taken, and so many allowed
}

func (p *plain) copied() *plain {
	c := *p
	c.noted, c.taken = slices.Clone(p.noted), slices.Clone(p.taken)
	return &c
}

func addStamp(b []byte, s api.Stamp) []byte { return append(b, byte(s.N), byte(s.Client)) }

// name tells states apart: two of one name have the same future. (Who answered first and what was noted below the greatest is past.)
func (s spot) name() string {
	var b []byte
	for i, p := range s.sides {
		b = append(b, byte(p.stage), byte(p.ballot), byte(p.Ballot()), byte(p.round), byte(p.command.Client), byte(len(s.sent[i])))
		for _, id := range p.group {
			at := slices.IndexFunc(p.taken, func(m api.Msg) bool { return m.From.Id == id })
			if at < 0 {
				b = append(b, 0)
				continue
			}
			b = append(b, byte(p.taken[at].Kind))
			b = append(addStamp(b, p.taken[at].Held), byte(p.taken[at].Command.Client))
		}
		for _, m := range s.sent[i] {
			b = append(addStamp(append(b, byte(m.Kind)), m.Stamp), byte(m.Command.Client))
		}
	}
	for _, i := range s.at {
		b = addStamp(addStamp(b, i.Promised), i.Accepted)
		b = append(b, byte(i.Command.Client))
	}
	return string(b)
}

// of is what a proposer of the search is of.
func (x *search) of(i int) plain {
	p := plain{client: i + 1, op: 4, key: key, ballot: x.ballots[i], round: 1, wrong: x.wrong}
	p.own = api.Command{Kind: api.CCreate, Client: i + 1, Op: 4, Name: strconv.Itoa(i + 1)}
	for id := range x.acceptors {
		p.group = append(p.group, id+1)
	}
	return p
}

// opening is the state ahead of all.
func (x *search) opening() spot {
	return spot{sides: [2]*plain{x.of(0).start(), x.of(1).start()}, at: make([]api.Instance, x.acceptors)}
}

// reach tells whether a state is one that was not seen ahead.
func (x *search) reach(s spot) bool {
	a, isA := s.sides[0].Decided()
	b, isB := s.sides[1].Decided()
	if isA && isB && a != b {
		x.fault = "two commands are decided"
	}
	if isA && a != s.sides[0].own && a != s.sides[1].own {
		x.fault = "decided is nobody's own command"
	}
	name := s.name()
	if _, there := x.seen[name]; there {
		return false
	}
	x.seen[name] = struct{}{}
	x.todo = append(x.todo, s)
	return true
}

// moves takes a step with one side. If that leads to a new state, a proposer of the package takes it too, from where the same calls have brought it.
func (x *search) moves(s spot, i int, c step) {
	next := s
	next.sides[i] = s.sides[i].copied()
	list := c.on(next.sides[i])
	next.rows[i] = append(slices.Clip(s.rows[i]), c)
	if len(list) > 0 {
		m := list[0]
		m.To = api.Addr{}
		next.sent[i] = append(slices.Clip(s.sent[i]), m)
	}
	if !x.reach(next) || x.wrong != "" {
		return
	}
	p := x.of(i).real()
	for _, before := range s.rows[i] {
		before.on(p)
	}
	if told := c.on(p); !sameMsgs(told, list) || !sameTold(toldBy(p), toldBy(next.sides[i])) {
		x.fault = fmt.Sprintf("behind %v: %v, not %v; of itself %+v", next.rows[i], told, list, toldBy(p))
	}
}

// comes hands one of a side's messages to an acceptor; its answer is lost, or is taken.
func (x *search) comes(s spot, i int, m api.Msg, to int) {
	m.To = server(to + 1)
	instance, answers := answered(s.at[to], m)
	next := s
	if instance != s.at[to] {
		next.at = slices.Clone(s.at)
		next.at[to] = instance
		x.reach(next)
	}
	for _, a := range answers {
		if !s.sides[i].passes(a) {
			x.moves(next, i, step{"Take", a})
		}
	}
}

// run tells how many states it saw.
func (x *search) run() int {
	x.seen, x.took = map[string]struct{}{}, map[[2]int]int{}
	x.reach(x.opening())
	for n := 0; len(x.todo) > 0 && x.fault == ""; n++ {
		s := x.todo[len(x.todo)-1]
		x.todo = x.todo[:len(x.todo)-1]
		if x.every > 0 && n%x.every == 0 {
			x.alive(s)
		}
		for i, p := range s.sides {
			if p.stage == ahead {
				x.moves(s, i, beginning)
			}
			if p.stage != over && p.refused() && p.Ballot() < x.most {
				x.moves(s, i, step{call: "Tick"})
			}
			for _, m := range s.sent[i] {
				for to := range s.at {
					x.comes(s, i, m, to)
				}
			}
		}
	}
	return len(x.seen)
}

// alive holds a state against P912: each proposer alone, with each set of acceptors that is enough.
func (x *search) alive(s spot) {
	for up := range 1 << len(s.at) {
		p := &play{at: map[int]api.Instance{}}
		var answering []int
		for n, i := range s.at {
			p.servers, p.at[n+1] = append(p.servers, n+1), i
			if up>>n&1 == 1 {
				answering = append(answering, n+1)
			}
		}
		if len(answering) < p.need() {
			continue
		}
		for i := range s.sides {
			if s.sides[i].stage == over {
				continue
			}
			one := &side{words: s.sides[i].copied()}
			took, allowed := p.copied().alive(one, answering)
			x.took[[2]int{took, allowed}]++
			if took > allowed {
				x.fault = fmt.Sprintf("behind %v, with %v: it took %d exchanges, and %d are allowed", s.rows[i], answering, took, allowed)
			}
		}
	}
}

func (p *play) copied() *play {
	c := *p
	c.at = map[int]api.Instance{}
	for id, i := range p.at {
		c.at[id] = i
	}
	return &c
}

func TestP911EveryState(t *testing.T) {
	t.Parallel()
	for _, x := range []*search{
		{acceptors: 1, ballots: [2]int{1, 1}, most: 4, every: 1},
		{acceptors: 3, ballots: [2]int{1, 1}, most: 1, every: 1},
		{acceptors: 3, ballots: [2]int{2, 1}, most: 2, every: 5},
		{acceptors: 3, ballots: [2]int{1, 1}, most: 2, every: 25},
	} {
		if n := x.run(); x.fault != "" || n < 1000 {
			t.Fatalf("%d acceptors, ballots from %v up to %d, %d states: %s", x.acceptors, x.ballots, x.most, n, x.fault)
		}
	}
}

func TestP911SearchFindsWrongRules(t *testing.T) {
	t.Parallel()
	for _, wrong := range wrongs() {
		if wrong == "any round and ballot" { // an answer is never late here
			continue
		}
		x := search{wrong: wrong, acceptors: 3, ballots: [2]int{1, 1}, most: 2}
		if n := x.run(); x.fault == "" {
			t.Errorf("%s: none of all %d states tells a fault", wrong, n)
		}
	}
}

func TestP912SearchFindsSlowRules(t *testing.T) {
	for _, wrong := range slow() {
		if wrong == "one above its own ballot" { // all ballots here stand so near each other
			continue
		}
		x := search{wrong: wrong, acceptors: 3, ballots: [2]int{1, 1}, most: 1, every: 1}
		if n := x.run(); x.fault == "" {
			t.Errorf("%s: in none of all %d states a proposer takes too long", wrong, n)
		}
	}
}
