package register

import (
	"bytes"
	"slices"

	"cairn/api"
	"cairn/tally"
)

// phase is where a machine stands, with what it needs there and no more.
type phase interface {
	begin(m *machine) []api.Msg
	take(m *machine, a api.Msg) []api.Msg
	tick(m *machine) []api.Msg
	done() (api.Result, bool)
}

// still tells nothing and changes nothing, whatever is called: a phase says for itself only where it does otherwise.
type still struct{}

func (still) begin(*machine) []api.Msg         { return nil }
func (still) take(*machine, api.Msg) []api.Msg { return nil }
func (still) tick(*machine) []api.Msg          { return nil }
func (still) done() (api.Result, bool)         { return api.Result{}, false }

// fresh is the phase ahead of Begin.
type fresh struct {
	still
	aim aim
}

func (p fresh) begin(m *machine) []api.Msg {
	if m.round < 1 || m.round > api.MaxNum {
		return m.enter(wornOut())
	}
	return m.enter(asking{aim: p.aim, values: tally.New[api.Block](m.group, m.need())})
}

// asking is the first phase: what do the servers hold?
type asking struct {
	still
	aim    aim
	values *tally.Tally[api.Block]
}

func (p asking) tick(m *machine) []api.Msg {
	return m.ask(api.MQuery, api.Block{}, p.values.Missing())
}

func (p asking) take(m *machine, a api.Msg) []api.Msg {
	if !m.answered(a, api.MValue) || !p.values.Take(a.From.Id, p.aim.keep(a)) {
		return nil
	}
	put, result, atEnd := p.aim.settle(greatest(p.values))
	if atEnd {
		return m.enter(ended{result: result})
	}
	if m.round == api.MaxNum {
		return m.enter(wornOut())
	}
	m.round++
	return m.enter(laying{put: put, result: result, acks: tally.New[struct{}](m.group, m.need())})
}

// greatest is the block with the greatest stamp, the first in the group's order, and whether all have its stamp.
func greatest(values *tally.Tally[api.Block]) (api.Block, bool) {
	var list []api.Block
	for _, b := range values.Got() {
		list = append(list, b)
	}
	below := func(a, b api.Block) bool { return tally.Less(a.Stamp, b.Stamp) }
	g, _ := tally.Best(below, list...)
	other := func(b api.Block) bool { return b.Stamp != g.Stamp }
	return g, !slices.ContainsFunc(list, other)
}

// laying is the second phase: the servers are to hold this block, or a newer one.
type laying struct {
	still
	put    api.Block
	result api.Result // what is told at the end
	acks   *tally.Tally[struct{}]
}

func (p laying) tick(m *machine) []api.Msg {
	return m.ask(api.MPut, p.put, p.acks.Missing())
}

func (p laying) take(m *machine, a api.Msg) []api.Msg {
	if !m.answered(a, api.MAck) || !p.acks.Take(a.From.Id, struct{}{}) {
		return nil
	}
	return m.enter(ended{result: p.result})
}

// ended is the phase behind the end.
type ended struct {
	still
	result api.Result
}

func wornOut() ended { return ended{result: api.Result{Err: api.ErrWorn}} }

func (p ended) done() (api.Result, bool) {
	r := p.result
	r.Data = bytes.Clone(r.Data)
	return r, true
}
