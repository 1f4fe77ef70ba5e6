package chain_test

import (
	"fmt"
	"slices"
	"testing"

	"cairn/api"
)

// exchange is one of a chain with the servers that answer; it tells which of its ballots were refused.
func (p *play) exchange(s *side, up []int) []vote {
	p.do(s, call{what: "Tick"})
	asked := p.way
	p.way = nil
	var answers []api.Msg
	var refused []vote
	for _, m := range asked {
		if !slices.Contains(up, m.To.Id) {
			continue
		}
		for _, a := range p.asked(m) {
			if a.Kind == api.MNack {
				refused = append(refused, vote{instance: m.Key.B, ballot: m.Stamp})
			}
			answers = append(answers, a)
		}
	}
	for _, a := range answers {
		p.do(s, call{what: "Take", msg: a})
	}
	return refused
}

// life is how a chain came to its command's end: how many instances were decided that it had not learned, how many exchanges it took, how many of its ballots were refused.
type life struct{ k, took, refused int }

// fault tells where a life is longer than P1109 allows.
func (l life) fault() string {
	allowed := 2*(l.k+1) + 2
	if l.refused > 0 {
		allowed += l.k + 2
	}
	if l.took > allowed || l.refused > l.k+2 {
		return fmt.Sprintf("%d were not learned: it took %d exchanges, with %d refusals", l.k, l.took, l.refused)
	}
	return ""
}

// alive takes a chain to its command's end by exchanges, all that was under way being lost.
func (p *play) alive(s *side, up []int) life {
	p.way = nil
	l := life{k: p.upto() - s.use().Bucket().Upto}
	if s.use().Bucket().Upto == 0 && p.after[0].Upto > 0 {
		l.k = len(p.row) + 1 // what all have trimmed from the beginning on is told at once
	}
	refused := map[vote]int{}
	for s.open && l.took < 3*l.k+9 {
		for _, v := range p.exchange(s, up) {
			refused[v] = 1
		}
		l.took++
	}
	l.refused = len(refused)
	return l
}

// some are servers that answer: at least F + 1 of them.
func (p *play) some() []int {
	n := p.f() + 1 + oneOf(p.r, 0, 0, p.r.Intn(p.f()+1))
	var up []int
	for _, i := range p.r.Perm(len(p.servers))[:n] {
		up = append(up, p.servers[i])
	}
	return up
}

// lived plays up to some state, and takes chains to their ends from there, one behind the other; it tells the first fault.
func lived(wrong string, f, plays int, seen map[life]int) string {
	for n := range plays {
		p := newPlay(int64(n)*11+int64(f), f, wrong)
		for range p.r.Intn(400 * (f + 1)) {
			p.step()
		}
		for _, i := range p.r.Perm(len(p.sides)) {
			s := p.sides[i]
			if s.stopped {
				continue
			}
			if !s.open && p.r.Intn(2) == 0 {
				p.begin(s)
			}
			if !s.open {
				continue
			}
			l := p.alive(s, p.some())
			seen[l]++
			if fault := l.fault(); fault != "" || p.fault != "" {
				return fmt.Sprintf("F %d, play %d: %s %s", f, n, fault, p.fault)
			}
		}
	}
	return ""
}

func TestP1109Alive(t *testing.T) {
	t.Parallel()
	for f := range api.MaxF + 1 {
		t.Run(fmt.Sprintf("F %d", f), func(t *testing.T) {
			t.Parallel()
			seen := map[life]int{}
			if fault := lived("", f, 600, seen); fault != "" {
				t.Fatal(fault)
			}
			long, refused, far := 0, 0, 0
			for l, n := range seen {
				if l.took >= 2*l.k+2 {
					long += n
				}
				if l.refused > 0 {
					refused += n
				}
				if l.k > 3 {
					far += n
				}
			}
			if long < 60 || refused < 60 || far < 10 {
				t.Errorf("too few that took long, were refused, were far behind: %d, %d, %d", long, refused, far)
			}
		})
	}
}

func TestP1109SlowRulesAreFoundOut(t *testing.T) {
	for _, wrong := range slow() {
		if fault := lived(wrong, 1, 2000, map[life]int{}); fault == "" {
			t.Errorf("%s: no chain takes too long", wrong)
		}
	}
}

// another is the command of client 9 that stands in an instance of the states below.
func another(v int) api.Command { return create(9, v, fmt.Sprintf("of %d", v)) }

// state has three servers, and a chain that has begun x; there are k decided instances.
func state(k int) (*play, *side) {
	p := newPlay(1, 1, "")
	p.room, p.servers, p.after = 16, []int{1, 2, 3}, []api.Bucket{{}}
	p.at = map[int]*keeper{}
	for _, id := range p.servers {
		p.at[id] = newKeeper(p.room, api.Bucket{})
	}
	of := plain{client: client, number: number, group: p.servers, room: p.room}
	s := &side{pair: newPair(of), finished: map[string]int{}, open: true, command: x}
	p.sides = []*side{s}
	for v := 1; v <= k; v++ {
		p.decided(v, another(v))
	}
	return p, s
}

// accept has a server accept another's command at the ballot {2, 9}.
func (p *play) accept(v int, servers ...int) {
	for _, id := range servers {
		p.at[id].at[v] = api.Instance{Promised: stamp(2, 9), Accepted: stamp(2, 9), Command: another(v)}
	}
}

// promise has a server promise a higher ballot.
func (p *play) promise(v, server, n int) {
	i := p.at[server].at[v]
	i.Promised = stamp(n, 9)
	p.at[server].at[v] = i
}

// mustLive takes x to its end with two of the three servers.
func mustLive(t *testing.T, p *play, s *side, want life, instance int) {
	t.Helper()
	l := p.alive(s, []int{1, 2})
	if p.fault != "" || l != want {
		t.Fatalf("%+v, not %+v: %s", l, want, p.fault)
	}
	mustEnd(t, s.real, api.Result{Entry: entry("plum", client, 4, 0), Instance: instance})
}

// As long as it may take: of no decided instance a server says so, and another's command is on its way behind them.
func TestP1109Longest(t *testing.T) {
	for k := range 7 {
		p, s := state(k)
		for v := 1; v <= k; v++ {
			p.accept(v, 1, 2)
		}
		p.accept(k+1, 2)
		p.do(s, call{what: "Begin", command: x, ballot: first, round: round})
		mustLive(t, p, s, life{k: k, took: 2*(k+1) + 2}, k+2)
	}
}

// And with as many refusals as there may be: in the first instance two, since a server promised a higher ballot behind its counted acceptance; in each of the next k one.
func TestP1109LongestWithRefusals(t *testing.T) {
	for k := range 7 {
		p, s := state(k)
		for v := 1; v <= k; v++ {
			p.accept(v, 1, 2)
		}
		p.accept(k+1, 2)
		p.do(s, call{what: "Begin", command: x, ballot: first, round: round})
		p.exchange(s, []int{1, 2})
		p.exchange(s, []int{1})
		p.promise(1, 1, 500)
		p.promise(1, 2, 400)
		for v := 2; v <= k+1; v++ {
			p.promise(v, 1, 1000*v)
		}
		mustLive(t, p, s, life{k: k, took: 2*(k+1) + 2 + k + 2, refused: k + 2}, k+2)
	}
}

// Where the servers know what was decided one exchange an instance is enough; where they have trimmed it, one for all.
func TestP1109KnownAndTrimmed(t *testing.T) {
	for k := range 7 {
		for trimmed := range k + 1 {
			p, s := state(k)
			for v := 1; v <= k; v++ {
				p.at[2].at[v] = api.Instance{Command: another(v), Decided: true}
			}
			p.at[2].trim(trimmed)
			p.do(s, call{what: "Begin", command: x, ballot: first, round: round})
			mustLive(t, p, s, life{k: k, took: k - trimmed + min(trimmed, 1) + 2}, k+1)
		}
	}
}

// With one server less than a majority nothing ends, however often they are asked.
func TestP1109LessThanAMajority(t *testing.T) {
	p, s := state(0)
	p.do(s, call{what: "Begin", command: x, ballot: first, round: round})
	for range 9 {
		p.exchange(s, []int{2})
	}
	if p.fault != "" || !s.open {
		t.Fatalf("%+v, %s", toldBy(s.real), p.fault)
	}
}
