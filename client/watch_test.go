package client_test

import (
	"bytes"
	"fmt"
	"slices"
	"testing"

	"cairn/api"
	"cairn/msg"
)

// watch looks at all that a client sends over its life, as P1409 says it; fault is the first thing that is otherwise.
type watch struct {
	machine
	op     api.Op
	round  api.Msg // a message of the greatest round
	ballot api.Msg // and of the greatest ballot
	fault  string
}

func newWatch(m machine) *watch { return &watch{machine: m} }

func (w *watch) says(format string, a ...any) {
	if w.fault == "" {
		w.fault = fmt.Sprintf(format, a...)
	}
}

func (w *watch) Invoke(o api.Op) ([]api.Packet, api.Errno) {
	number, pending := w.Number(), w.Pending()
	list, err := w.machine.Invoke(o)
	switch {
	case err != api.OK && (len(list) > 0 || w.Number() != number || w.Pending() != pending):
		w.says("%+v was refused: %v, %s", o, list, told(w.machine))
	case err == api.OK && (pending || w.Number() != number+1):
		w.says("%+v: the number %d behind %d, pending ahead: %v", o, w.Number(), number, pending)
	case err == api.OK:
		w.op = o
	}
	return w.look(list), err
}

func (w *watch) Step(data []byte) []api.Packet { return w.look(w.machine.Step(data)) }
func (w *watch) Tick() []api.Packet            { return w.look(w.machine.Tick()) }

// group is that of the pending operation's key.
func (w *watch) group() []int {
	if isBlock(w.op) {
		return groupOf(w.Config(), block(w.op.File, w.op.N))
	}
	return groupOf(w.Config(), api.Key{Kind: api.KBucket, A: bucketOf(w.Config(), w.op)})
}

func (w *watch) isOwn(k api.Key) bool {
	if isBlock(w.op) {
		return k == block(w.op.File, w.op.N)
	}
	return k == at(bucketOf(w.Config(), w.op), k.B)
}

func (w *watch) look(list []api.Packet) []api.Packet {
	if len(list) == 0 {
		return list
	}
	group := w.group()
	for i, p := range list {
		m, err := msg.Decode(p.Data, w.Config())
		if err != api.OK {
			w.says("%v is no message: %v", p, err)
			return list
		}
		if p.From != user(w.Id()) || m.From != p.From || p.To != m.To || p.Count != 0 || m.Op != w.Number() || !w.isOwn(m.Key) {
			w.says("the packet %+v with %+v, in operation %d, %+v", p, m, w.Number(), w.op)
		}
		if p.To.Client || !slices.Contains(group, p.To.Id) {
			w.says("to %v, the group is %v", p.To, group)
		}
		for _, q := range list[:i] {
			if bytes.Equal(p.Data, q.Data) {
				w.says("twice: %+v", m)
			}
		}
		w.rounds(m)
		w.ballots(m)
	}
	return list
}

// rounds: what has one round is one thing that is asked, or the word of its end.
func (w *watch) rounds(m api.Msg) {
	is := w.round
	one := m.Op == is.Op && m.Key == is.Key && m.Kind == is.Kind && m.Stamp == is.Stamp && m.Command == is.Command && bytes.Equal(m.Block, is.Block)
	end := m.Op == is.Op && m.Key == is.Key && m.Kind == api.MLearned && is.Kind == api.MAccept && m.Command == is.Command
	switch {
	case m.Round > is.Round:
		if m.Kind == api.MLearned {
			w.says("a round begins with %+v", m)
		}
		w.round = m
	case m.Round < is.Round, !one && !end:
		w.says("in round %d %+v, behind %+v", m.Round, m, is)
	}
}

// ballots: each MPrepare of a new round has a new ballot, each MAccept that of the MPrepare ahead.
func (w *watch) ballots(m api.Msg) {
	is := w.ballot
	if m.Kind != api.MPrepare && m.Kind != api.MAccept {
		return
	}
	if m.Stamp.Client != w.Id() {
		w.says("the ballot of another: %+v", m)
	}
	switch {
	case m.Stamp.N > is.Stamp.N && m.Kind == api.MPrepare:
		w.ballot = m
	case m.Stamp.N != is.Stamp.N, m.Op != is.Op, m.Key != is.Key, m.Kind == api.MPrepare && m.Round != is.Round:
		w.says("the ballot of %+v, behind %+v", m, is)
	}
}

func mustBeWatched(t testing.TB, w *watch) {
	t.Helper()
	if w.fault != "" {
		t.Fatal(w.fault)
	}
}
