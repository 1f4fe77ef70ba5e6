package register

import (
	"bytes"

	"cairn/api"
	"cairn/tally"
)

// machine is a client's exchange with the group of a block: what it does hangs on its phase.
type machine struct {
	client api.Addr
	op     int
	key    api.Key
	group  []int // each server once
	round  int
	phase  phase
}

func newMachine(client, op int, k api.Key, group []int, round int, a aim) *machine {
	// A tally without answers misses each server of its group once, in the group's order.
	unlike := tally.New[struct{}](group, 0).Missing()
	return &machine{client: api.Addr{Client: true, Id: client}, op: op, key: k, group: unlike, round: round, phase: fresh{aim: a}}
}

func (m *machine) Begin() []api.Msg         { return m.phase.begin(m) }
func (m *machine) Take(a api.Msg) []api.Msg { return m.phase.take(m, a) }
func (m *machine) Tick() []api.Msg          { return m.phase.tick(m) }
func (m *machine) Done() (api.Result, bool) { return m.phase.done() }
func (m *machine) Round() int               { return m.round }

func (m *machine) need() int { return len(m.group)/2 + 1 }

// enter begins a phase: what it tells first is what it tells at a tick, when nobody has answered.
func (m *machine) enter(p phase) []api.Msg {
	m.phase = p
	return p.tick(m)
}

// answered tells whether a server answers what is asked in the present round; whether that one is of the group the phase's tally knows.
func (m *machine) answered(a api.Msg, kind int) bool {
	return a.Kind == kind && !a.From.Client && a.To == m.client && a.Op == m.op && a.Round == m.round && a.Key == m.key
}

// ask makes the present round's message to each of these servers.
func (m *machine) ask(kind int, b api.Block, servers []int) []api.Msg {
	var list []api.Msg
	for _, server := range servers {
		list = append(list, api.Msg{
			Kind: kind, From: m.client, To: api.Addr{Id: server},
			Op: m.op, Round: m.round, Key: m.key,
			Stamp: b.Stamp, Block: bytes.Clone(b.Data),
		})
	}
	return list
}
