package acceptor_test

import (
	"math/rand"
	"slices"
	"strconv"
	"testing"

	"cairn/acceptor"
	"cairn/api"
)

// rules are the calls that a play is held against: the package's own, or wrong ones that a play must find out.
type rules struct {
	prepare func(api.Instance, api.Stamp) (api.Instance, api.Msg, bool)
	accept  func(api.Instance, api.Stamp, api.Command) (api.Instance, api.Msg, bool)
	learned func(api.Instance, api.Command) (api.Instance, bool)
}

var own = rules{acceptor.Prepare, acceptor.Accept, acceptor.Learned}

// proposal is a ballot, the promises of it that are counted, by instance, and what it has chosen.
type proposal struct {
	ballot   api.Stamp
	own      api.Command
	promises map[int]api.Msg
	chosen   bool
	command  api.Command
}

// late is a promise that is neither lost nor counted yet.
type late struct {
	of   *proposal
	from int
	m    api.Msg
}

// vote is what instances accept: as many as have, at any time, stand in took.
type vote struct {
	ballot  api.Stamp
	command api.Command
}

// play is 2F + 1 instances and proposals, as P805 says, and what has been seen of them.
type play struct {
	rules
	f         int
	at        []api.Instance
	proposals []*proposal
	way       []late
	took      map[vote]map[int]bool
	done      []api.Command // those that F + 1 instances accepted at one ballot, in that order
	fault     string
}

func newPlay(r rules, f int, list []api.Stamp) *play {
	p := &play{rules: r, f: f, at: make([]api.Instance, 2*f+1), took: map[vote]map[int]bool{}}
	for n, b := range list {
		c := api.Command{Kind: api.CCreate, Client: b.Client, Op: b.N, Name: "p" + strconv.Itoa(n)}
		p.proposals = append(p.proposals, &proposal{ballot: b, own: c, promises: map[int]api.Msg{}})
	}
	return p
}

// hear looks at an answer: what is told as known must be what was decided.
func (p *play) hear(m api.Msg) {
	if m.Kind == api.MKnown && !slices.Contains(p.done, m.Command) {
		p.fault = "known, but not decided: " + m.Command.Name
	}
}

func (p *play) count(l late) {
	if _, there := l.of.promises[l.from]; !there && !l.of.chosen {
		l.of.promises[l.from] = l.m
	}
}

// choose takes the command of the greatest Held of these F + 1 promises, or the proposal's own.
func (p *play) choose(q *proposal, from []int) {
	greatest := none
	q.chosen, q.command = true, q.own
	for _, s := range from {
		if m := q.promises[s]; rank(m.Held) > rank(greatest) {
			greatest, q.command = m.Held, m.Command
		}
	}
}

func (p *play) accepts(q *proposal, s int) {
	i, m, _ := p.accept(p.at[s], q.ballot, q.command)
	p.at[s] = i
	p.hear(m)
	if m.Kind != api.MAccepted {
		return
	}
	v := vote{q.ballot, q.command}
	if p.took[v] == nil {
		p.took[v] = map[int]bool{}
	}
	p.took[v][s] = true
	if len(p.took[v]) != p.f+1 || slices.Contains(p.done, v.command) {
		return
	}
	if p.done = append(p.done, v.command); len(p.done) > 1 {
		p.fault = "decided: " + p.done[0].Name + " and " + v.command.Name
	}
}

// step makes one of the things that may happen.
func (p *play) step(r *rand.Rand) {
	q, s := p.proposals[r.Intn(len(p.proposals))], r.Intn(len(p.at))
	switch n := r.Intn(10); {
	case n < 4 && q.chosen, n == 4 && q.chosen:
		p.accepts(q, s)
	case n < 4:
		i, m, _ := p.prepare(p.at[s], q.ballot)
		p.at[s] = i
		p.hear(m)
		if m.Kind == api.MPromise && r.Intn(4) > 0 {
			p.way = append(p.way, late{q, s, m})
		}
	case n == 4 && len(q.promises) > p.f:
		p.choose(q, someOf(r, q.promises, p.f+1))
	case n < 9 && len(p.way) > 0:
		k := r.Intn(len(p.way))
		p.count(p.way[k])
		p.way = slices.Delete(p.way, k, k+1)
	case n == 9 && len(p.done) > 0 && r.Intn(4) == 0:
		p.at[s], _ = p.learned(p.at[s], p.done[r.Intn(len(p.done))])
	}
}

func someOf(r *rand.Rand, from map[int]api.Msg, n int) []int {
	var list []int
	for s := range 2*api.MaxF + 1 {
		if _, there := from[s]; there {
			list = append(list, s)
		}
	}
	r.Shuffle(len(list), func(i, k int) { list[i], list[k] = list[k], list[i] })
	return list[:n]
}

// unlike are n ballots, no two the same, many of one N.
func unlike(r *rand.Rand, n int) []api.Stamp {
	var list []api.Stamp
	for len(list) < n {
		if b := stamp(1+r.Intn(3), 1+r.Intn(4)); !slices.Contains(list, b) {
			list = append(list, b)
		}
	}
	return list
}

// found plays at random, and tells the first fault and in how many plays a command was decided.
func found(r rules, f, plays int) (string, int) {
	random := rand.New(rand.NewSource(int64(805 + f)))
	decided := 0
	for range plays {
		p := newPlay(r, f, unlike(random, 2+random.Intn(4)))
		for n := 0; n < 60*(f+1) && p.fault == ""; n++ {
			p.step(random)
		}
		if p.fault != "" {
			return p.fault, decided
		}
		if len(p.done) > 0 {
			decided++
		}
	}
	return "", decided
}

func TestP805RandomPlays(t *testing.T) {
	const plays = 2000
	for f := range api.MaxF + 1 {
		fault, decided := found(own, f, plays)
		if fault != "" {
			t.Errorf("F %d: %s", f, fault)
		}
		if decided < plays/10 {
			t.Errorf("F %d: only %d of %d plays decided something: too few to tell", f, decided, plays)
		}
	}
}

// wrong are rules that break P805: a play that does not find them out would say nothing of the right ones.
func wrong() map[string]rules {
	low := func(i api.Instance) api.Instance {
		i.Promised = stamp(0, 0)
		return i
	}
	byN := func(i api.Instance, b api.Stamp) api.Instance {
		if b.N == i.Promised.N {
			i.Promised = b
		}
		return i
	}
	return map[string]rules{
		"any ballot is promised": {func(i api.Instance, b api.Stamp) (api.Instance, api.Msg, bool) { return own.prepare(low(i), b) }, own.accept, own.learned},
		"any ballot is accepted": {own.prepare, func(i api.Instance, b api.Stamp, c api.Command) (api.Instance, api.Msg, bool) {
			return own.accept(low(i), b, c)
		}, own.learned},
		"ballots by N alone": {own.prepare, func(i api.Instance, b api.Stamp, c api.Command) (api.Instance, api.Msg, bool) {
			return own.accept(byN(i, b), b, c)
		}, own.learned},
		"an acceptance is not told": {func(i api.Instance, b api.Stamp) (api.Instance, api.Msg, bool) {
			next, m, other := own.prepare(i, b)
			m.Held, m.Command = none, nothing
			return next, m, other
		}, own.accept, own.learned},
		"a promise takes the acceptance away": {func(i api.Instance, b api.Stamp) (api.Instance, api.Msg, bool) {
			next, m, other := own.prepare(i, b)
			if m.Kind == api.MPromise {
				next = promised(b)
			}
			return next, m, other
		}, own.accept, own.learned},
		"the first acceptance stays": {own.prepare, func(i api.Instance, b api.Stamp, c api.Command) (api.Instance, api.Msg, bool) {
			next, m, other := own.accept(i, b, c)
			if m.Kind == api.MAccepted && i.Accepted != none {
				next.Accepted, next.Command = i.Accepted, i.Command
			}
			return next, m, other
		}, own.learned},
		"an acceptance is no promise": {own.prepare, func(i api.Instance, b api.Stamp, c api.Command) (api.Instance, api.Msg, bool) {
			next, m, other := own.accept(i, b, c)
			if m.Kind == api.MAccepted {
				next.Promised = i.Promised
			}
			return next, m, other
		}, own.learned},
		"what is accepted counts as decided": {own.prepare, func(i api.Instance, b api.Stamp, c api.Command) (api.Instance, api.Msg, bool) {
			next, m, other := own.accept(i, b, c)
			if m.Kind == api.MAccepted {
				next = decided(c)
			}
			return next, m, other
		}, own.learned},
	}
}

func TestP805WrongRulesAreFoundOut(t *testing.T) {
	for name, r := range wrong() {
		if fault, _ := found(r, 1, 2000000); fault == "" {
			t.Errorf("%s: no random play tells a fault", name)
		}
		s := search{rules: r, f: 1, proposals: 3}
		if fault, n := s.run(); fault == "" {
			t.Errorf("%s: none of all %d states tells a fault", name, n)
		}
	}
}
