package register_test

import (
	"bytes"
	"slices"
	"testing"

	"cairn/api"
	"cairn/register"
	"cairn/tally"
)

// What most machines of the tests are of.
const (
	client = 7
	op     = 3
	round  = 5
)

var key = api.Key{Kind: api.KBlock, A: 7, B: 1}

func group() []int { return []int{4, 2, 9} }

func stamp(n, c int) api.Stamp { return api.Stamp{N: n, Client: c} }

func server(id int) api.Addr { return api.Addr{Id: id} }

func user(id int) api.Addr { return api.Addr{Client: true, Id: id} }

func writeOf(data string) tally.Machine {
	return register.Write(client, op, key, group(), round, []byte(data))
}

func readOf(size int) tally.Machine {
	return register.Read(client, op, key, group(), round, size)
}

// begun has begun, and tells what its Begin told no more.
func begun(m tally.Machine) tally.Machine {
	m.Begin()
	return m
}

// both are a Write and a Read, neither begun.
func both() map[string]tally.Machine {
	return map[string]tally.Machine{"write": writeOf("ab"), "read": readOf(2)}
}

func value(from int, s api.Stamp, block string) api.Msg {
	return api.Msg{Kind: api.MValue, From: server(from), To: user(client), Op: op, Round: round, Key: key, Stamp: s, Block: []byte(block)}
}

// ack is an answer to an MPut, in the round behind the first one.
func ack(from int) api.Msg {
	return api.Msg{Kind: api.MAck, From: server(from), To: user(client), Op: op, Round: round + 1, Key: key}
}

// inRound is the same message in another round.
func inRound(m api.Msg, round int) api.Msg {
	m.Round = round
	return m
}

func query(to int) api.Msg {
	return api.Msg{Kind: api.MQuery, From: user(client), To: server(to), Op: op, Round: round, Key: key}
}

func put(to int, s api.Stamp, block string) api.Msg {
	return api.Msg{Kind: api.MPut, From: user(client), To: server(to), Op: op, Round: round + 1, Key: key, Stamp: s, Block: []byte(block)}
}

// queries and puts are the messages to these servers.
func queries(to ...int) []api.Msg {
	var list []api.Msg
	for _, id := range to {
		list = append(list, query(id))
	}
	return list
}

func puts(s api.Stamp, block string, to ...int) []api.Msg {
	var list []api.Msg
	for _, id := range to {
		list = append(list, put(id, s, block))
	}
	return list
}

func allInRound(list []api.Msg, round int) []api.Msg {
	for i := range list {
		list[i].Round = round
	}
	return list
}

// sameMsgs holds messages against each other; no list and an empty one are the same.
func sameMsgs(a, b []api.Msg) bool {
	return slices.EqualFunc(a, b, func(x, y api.Msg) bool {
		return x.Kind == y.Kind && x.From == y.From && x.To == y.To && x.Op == y.Op && x.Round == y.Round && x.Key == y.Key &&
			x.Stamp == y.Stamp && bytes.Equal(x.Block, y.Block) && nothingElse(x) && nothingElse(y)
	})
}

// nothingElse looks that what neither an MQuery nor an MPut names is zero.
func nothingElse(m api.Msg) bool {
	return m.Held == stamp(0, 0) && m.Command == api.Command{} && !m.More &&
		m.Bucket.Upto == 0 && len(m.Bucket.Entries)+len(m.Bucket.Lasts)+len(m.Commands) == 0
}

// sameResult holds results against each other: those of a register have Err, Stamp and Data alone.
func sameResult(a, b api.Result) bool {
	return a.Err == b.Err && a.Stamp == b.Stamp && bytes.Equal(a.Data, b.Data) && noOther(a) && noOther(b)
}

func noOther(r api.Result) bool {
	return r.Entry == api.Entry{} && len(r.List) == 0 && r.N == 0 && r.Instance == 0
}

func mustTell(t *testing.T, what string, list []api.Msg, want ...api.Msg) {
	t.Helper()
	if !sameMsgs(list, want) {
		t.Fatalf("%s tells\n%v, not\n%v", what, list, want)
	}
}

// mustGoOn looks that a machine is not at its end, and that its present round is this.
func mustGoOn(t *testing.T, m tally.Machine, round int) {
	t.Helper()
	r, done := m.Done()
	if done || !sameResult(r, api.Result{}) {
		t.Fatalf("ahead of the end Done tells %v, %v", r, done)
	}
	if m.Round() != round {
		t.Fatalf("Round tells %d, not %d", m.Round(), round)
	}
}

// mustEnd looks that a machine is at its end, with this, and that nothing moves it any more.
func mustEnd(t *testing.T, m tally.Machine, round int, want api.Result) {
	t.Helper()
	for range 2 {
		if r, done := m.Done(); !done || !sameResult(r, want) {
			t.Fatalf("behind the end Done tells %v, %v, not %v", r, done, want)
		}
		if m.Round() != round {
			t.Fatalf("behind the end Round tells %d, not %d", m.Round(), round)
		}
		mustTell(t, "Begin behind the end", m.Begin())
		mustTell(t, "Tick behind the end", m.Tick())
		for _, id := range group() {
			for _, in := range []int{round - 1, round, round + 1} {
				mustTell(t, "Take behind the end", m.Take(inRound(value(id, stamp(9, 9), "late"), in)))
				mustTell(t, "Take behind the end", m.Take(inRound(ack(id), in)))
			}
		}
	}
}

func mustWear(t *testing.T, m tally.Machine, round int) {
	t.Helper()
	mustEnd(t, m, round, api.Result{Err: api.ErrWorn})
}

// mustPassOver hands messages in for each of which nothing is told.
func mustPassOver(t *testing.T, m tally.Machine, list ...api.Msg) {
	t.Helper()
	for _, a := range list {
		mustTell(t, "Take", m.Take(a))
	}
}

// plain is a machine by the chapter's words alone: what it was handed, the answers taken in this round, gone through for each question.
type plain struct {
	write            bool
	client, op, size int
	key              api.Key
	group            []int
	data             []byte

	round, phase int // phase 0: ahead of Begin; 1, 2; 3: the end
	taken        []api.Msg
	tag          api.Stamp
	block        []byte
	err          api.Errno
}

func plainOf(p plain) *plain {
	var unlike []int
	for i, id := range p.group {
		if !slices.Contains(p.group[:i], id) {
			unlike = append(unlike, id)
		}
	}
	p.group = unlike
	return &p
}

func (p *plain) machine(group []int) tally.Machine {
	if p.write {
		return register.Write(p.client, p.op, p.key, group, p.round, p.data)
	}
	return register.Read(p.client, p.op, p.key, group, p.round, p.size)
}

func (p *plain) Begin() []api.Msg {
	if p.phase != 0 {
		return nil
	}
	if p.round < 1 || p.round > 1<<40 {
		p.phase, p.err = 3, api.ErrWorn
		return nil
	}
	p.phase = 1
	return p.Tick()
}

func (p *plain) Tick() []api.Msg {
	var list []api.Msg
	for _, id := range p.group {
		if p.answered(id) {
			continue
		}
		m := api.Msg{Kind: api.MQuery, From: user(p.client), To: server(id), Op: p.op, Round: p.round, Key: p.key}
		if p.phase == 2 {
			m.Kind, m.Stamp, m.Block = api.MPut, p.tag, p.block
		}
		if p.phase == 1 || p.phase == 2 {
			list = append(list, m)
		}
	}
	return list
}

func (p *plain) answered(id int) bool {
	return slices.ContainsFunc(p.taken, func(m api.Msg) bool { return m.From.Id == id })
}

func (p *plain) Take(m api.Msg) []api.Msg {
	fits := p.phase == 1 && m.Kind == api.MValue || p.phase == 2 && m.Kind == api.MAck
	if !fits ||
		m.From.Client || !slices.Contains(p.group, m.From.Id) ||
		m.To != user(p.client) || m.Op != p.op || m.Round != p.round || m.Key != p.key || p.answered(m.From.Id) {
		return nil
	}
	p.taken = append(p.taken, m)
	if 2*len(p.taken) <= len(p.group) { // no more than half of them
		return nil
	}
	if p.phase == 2 {
		p.phase = 3
		return nil
	}
	if p.choose(); p.phase == 3 {
		return nil
	}
	if p.round+1 > 1<<40 {
		p.phase, p.err = 3, api.ErrWorn
		return nil
	}
	p.phase, p.taken = 2, nil
	p.round++
	return p.Tick()
}

// choose says tag and block, and whether that is the end, by what was taken.
func (p *plain) choose() {
	g, alike := p.taken[0].Stamp, true
	for _, m := range p.taken {
		if g.N < m.Stamp.N || g.N == m.Stamp.N && g.Client < m.Stamp.Client {
			g = m.Stamp
		}
	}
	for _, m := range p.taken {
		alike = alike && m.Stamp == g
	}
	if p.write && g.N >= 1<<40 {
		p.phase, p.err = 3, api.ErrWorn
		return
	}
	if p.write {
		p.tag, p.block = stamp(g.N+1, p.client), p.data
		return
	}
	p.tag = g
	for _, id := range slices.Backward(p.group) {
		for _, m := range p.taken {
			if m.From.Id == id && m.Stamp == g {
				p.block = m.Block
			}
		}
	}
	if g == stamp(0, 0) {
		p.block = bytes.Repeat([]byte{0}, max(0, min(p.size, 4096)))
	}
	if alike {
		p.phase = 3
	}
}

func (p *plain) Done() (api.Result, bool) {
	switch {
	case p.phase != 3:
		return api.Result{}, false
	case p.err != api.OK:
		return api.Result{Err: p.err}, true
	case p.write:
		return api.Result{Stamp: p.tag}, true
	}
	return api.Result{Stamp: p.tag, Data: p.block}, true
}

func (p *plain) Round() int { return p.round }

// mustAgree looks that both tell the same of themselves.
func mustAgree(t *testing.T, m tally.Machine, p *plain) {
	r, done := m.Done()
	if want, over := p.Done(); done != over || !sameResult(r, want) {
		t.Fatalf("Done tells %v, %v, not %v, %v", r, done, want, over)
	}
	if m.Round() != p.Round() {
		t.Fatalf("Round tells %d, not %d", m.Round(), p.Round())
	}
}
