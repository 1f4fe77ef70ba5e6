package client_test

import (
	"bytes"
	"iter"
	"slices"
	"strings"

	"cairn/api"
	"cairn/chain"
	"cairn/msg"
	"cairn/register"
	"cairn/ring"
	"cairn/tally"
)

// kept is a chain of a plain client, and its bucket.
type kept struct {
	*chain.Chain
	number int
}

// plain is a client by the chapter's words alone: all registers and chains that it has made are kept, and gone through for each question. wrong names a rule that it breaks.
type plain struct {
	c         api.Config
	ring      *ring.Ring
	id        int
	registers []tally.Machine
	chains    []kept
	last      string // what the last operation is done by: "", "register", "chain"
	bucket    int    // of that chain
	ops       int
	all       []item // all the news that there ever were
	told      int    // so many of them were told
	down      bool
	wrong     string
	// What the tests need to answer it: the last message of it that asks for an answer, and that of the round ahead.
	asked, before api.Msg
}

func newPlain(c api.Config, id int, wrong string) *plain {
	return &plain{c: c, ring: ringOf(c), id: id, wrong: wrong}
}

func (p *plain) Id() int            { return p.id }
func (p *plain) Config() api.Config { return p.ring.Config() }
func (p *plain) Number() int        { return p.ops }
func (p *plain) Stop()              { p.down = true }
func (p *plain) Fallen() bool       { return p.down }

func (p *plain) Done() (api.Result, bool) {
	switch p.last {
	case "register":
		r, done := p.registers[len(p.registers)-1].Done()
		return api.Result{Err: r.Err, Data: r.Data, Stamp: r.Stamp}, done
	case "chain":
		r, done := p.present().Done()
		return api.Result{Err: r.Err, Entry: r.Entry, List: r.List, Instance: r.Instance}, done
	}
	return api.Result{}, false
}

func (p *plain) Pending() bool {
	_, done := p.Done()
	return p.last != "" && !done
}

// present is the chain of the last operation's bucket.
func (p *plain) present() kept { return p.chains[p.chainOf(p.bucket)] }

func (p *plain) chainOf(number int) int {
	for i := len(p.chains) - 1; i >= 0; i-- {
		if p.chains[i].number == number {
			return i
		}
	}
	return -1
}

func (p *plain) round() int {
	greatest := 0
	for _, r := range p.registers {
		if p.wrong != "rounds of chains alone" {
			greatest = max(greatest, r.Round())
		}
	}
	for _, k := range p.chains {
		if p.wrong != "rounds of registers alone" {
			greatest = max(greatest, k.Round())
		}
	}
	if p.wrong == "rounds begin anew" {
		return 0
	}
	return greatest
}

func (p *plain) ballot() int {
	greatest := 0
	for _, k := range p.chains {
		if p.wrong != "ballots by bucket" || k.number == p.bucket {
			greatest = max(greatest, k.Ballot())
		}
	}
	return greatest
}

func (p *plain) refused(o api.Op) api.Errno {
	switch {
	case p.down:
		return api.ErrFallen
	case p.Pending():
		return api.ErrBusy
	case o.Kind < 1 || o.Kind > 9 || !p.namesAll(o):
		return api.ErrOp
	case p.ops == 1<<40:
		return api.ErrWorn
	}
	most, beyond := bound(p.c, o.Kind)
	isFile := func(f api.File) bool { return f.Client >= 1 && f.Client <= 255 && f.Op >= 1 && f.Op <= 1<<40 }
	for field := range strings.SplitSeq(names(o.Kind), ", ") {
		switch {
		case field == "Name" && (o.Name == "" || len(o.Name) > 255 || strings.ContainsAny(o.Name, "/\x00")):
			return api.ErrName
		case field == "File" && !isFile(o.File), field == "New" && !isFile(o.New):
			return api.ErrArg
		case field == "N" && (o.N < 0 || o.N > most):
			return beyond
		case field == "Data" && len(o.Data) != p.c.Block:
			return api.ErrBlock
		}
	}
	return api.OK
}

// namesAll: nothing is there that the kind does not name.
func (p *plain) namesAll(o api.Op) bool {
	there := map[string]bool{"Name": o.Name != "", "Other": o.Other != "", "File": o.File != file(0, 0), "New": o.New != file(0, 0), "At": o.At != 0, "N": o.N != 0, "Data": len(o.Data) > 0}
	for field, is := range there {
		if is && !isNamed(o.Kind, field) {
			return false
		}
	}
	return true
}

func (p *plain) Invoke(o api.Op) ([]api.Packet, api.Errno) {
	if err := p.refused(o); err != api.OK {
		return nil, err
	}
	if p.wrong != "reads have no number" || o.Kind != api.ORead {
		p.ops++
	}
	if isBlock(o) {
		return p.sent(p.beginBlock(o)), api.OK
	}
	return p.sent(p.beginCommand(o)), api.OK
}

func (p *plain) beginBlock(o api.Op) []api.Msg {
	k := block(o.File, o.N)
	group, size, round := groupOf(p.c, k), p.c.Block, p.round()+1
	switch p.wrong {
	case "the group of the first block":
		group = groupOf(p.c, block(o.File, 0))
	case "the first block":
		k = block(o.File, 0)
		group = groupOf(p.c, k)
	case "all servers":
		group = p.Config().Servers
	case "no zeros":
		size = 0
	}
	m := register.Read(p.id, p.ops, k, group, round, size)
	if o.Kind == api.OWrite {
		m = register.Write(p.id, p.ops, k, group, round, o.Data)
	}
	p.last, p.registers = "register", append(p.registers, m)
	return m.Begin()
}

func (p *plain) beginCommand(o api.Op) []api.Msg {
	x := api.Command{Kind: o.Kind, Client: p.id, Op: p.ops, Name: o.Name, File: o.File, New: o.New, Size: o.N} // the kinds of the commands have the numbers of their operations
	if p.bucket = o.N; o.Kind != api.OList {
		p.bucket = p.ring.Bucket(o.Name)
	} else {
		x.Size = 0
	}
	room := p.c.Room
	switch p.wrong {
	case "a grown one is set":
		if o.Kind == api.OGrow {
			x.Kind = api.CSetSize
		}
	case "a replaced one is as it was":
		if o.Kind == api.OReplace {
			x.New = o.File
		}
	case "one size":
		if x.Size > 0 {
			x.Size = 1
		}
	case "room for all":
		room = api.MaxRoom
	}
	round, ballot := p.round()+1, p.ballot()+1
	if p.chainOf(p.bucket) < 0 || p.wrong == "chains are not kept" {
		group := groupOf(p.c, api.Key{Kind: api.KBucket, A: p.bucket})
		p.chains = append(p.chains, kept{chain.New(p.id, p.bucket, group, room), p.bucket})
	}
	p.last = "chain"
	return p.present().Begin(x, ballot, round)
}

func (p *plain) Step(data []byte) []api.Packet {
	m, err := msg.Decode(data, p.c)
	if p.down || !p.Pending() || err != api.OK || m.To != user(p.id) {
		return nil
	}
	if p.last == "register" {
		return p.sent(p.registers[len(p.registers)-1].Take(m))
	}
	return p.sent(p.present().Take(m))
}

func (p *plain) Tick() []api.Packet {
	if p.down || !p.Pending() {
		return nil
	}
	if p.last == "register" {
		return p.sent(p.registers[len(p.registers)-1].Tick())
	}
	return p.sent(p.present().Tick())
}

// sent makes packets, and looks what was learned.
func (p *plain) sent(list []api.Msg) []api.Packet {
	if p.last == "chain" {
		for v, x := range p.present().News() {
			p.all = append(p.all, item{at(p.bucket, v), x})
		}
	}
	var packets []api.Packet
	for _, m := range list {
		if m.Kind != api.MLearned {
			if m.Round != p.asked.Round {
				p.before = p.asked
			}
			p.asked = m
		}
		data, err := msg.Encode(m, p.c)
		if err != api.OK {
			panic(m)
		}
		packets = append(packets, api.Packet{From: user(p.id), To: m.To, Data: data})
	}
	return packets
}

func (p *plain) News() iter.Seq2[api.Key, api.Command] {
	rest := slices.Clone(p.all[p.told:])
	p.told = len(p.all)
	return func(yield func(api.Key, api.Command) bool) {
		for _, n := range rest {
			if !yield(n.key, n.command) {
				return
			}
		}
	}
}

// asks is what it asks now, or asked last; asksBefore what it asked in the round ahead of that. Ahead of all it is as if it had asked for the first instance of all.
func (p *plain) asks() (ask, int)       { return asAsk(p.asked) }
func (p *plain) asksBefore() (ask, int) { return asAsk(p.before) }

func asAsk(m api.Msg) (ask, int) {
	if m.Kind == 0 {
		return ask{1, 1, 1, at(0, 1)}, api.MPrepare
	}
	return ask{m.Op, m.Round, m.Stamp.N, m.Key}, m.Kind
}

// yes is the plainest answer to a message of that kind.
func (a ask) yes(kind, from int, c api.Config) api.Msg {
	switch kind {
	case api.MQuery:
		return a.value(from, stamp(0, 0), string(bytes.Repeat([]byte{0}, c.Block)))
	case api.MPut:
		return a.ack(from)
	case api.MPrepare:
		return a.promise(from)
	}
	return a.accepted(from)
}
