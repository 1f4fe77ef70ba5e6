package server_test

import (
	"iter"
	"slices"
	"sort"

	"cairn/acceptor"
	"cairn/api"
	"cairn/bucket"
	"cairn/mend"
	"cairn/msg"
	"cairn/register"
	"cairn/ring"
	"cairn/server"
	"cairn/stable"
)

// shelf is what outlasts a plain server: so many sectors, and the records that lie there.
type shelf struct {
	sectors int
	lies    map[api.Key]mend.Change
}

func newShelf(sectors int) *shelf { return &shelf{sectors, map[api.Key]mend.Change{}} }

// plain is a server by the chapter's words, over a shelf in the place of a disk. wrong names a rule that it breaks.
type plain struct {
	c       api.Config
	id      int
	shelf   *shelf
	room    int
	arm     int // below 0: it is not armed
	fallen  bool
	records int // that it has laid down and dropped
	wrong   string
}

func newPlain(c api.Config, id int, sh *shelf, wrong string) *plain {
	return &plain{c: c, id: id, shelf: sh, room: sh.sectors, arm: -1, wrong: wrong}
}

func (p *plain) own(k api.Key) bool {
	r, _ := ring.New(p.c)
	group, err := r.Group(k)
	return err == api.OK && slices.Contains(group, p.id)
}

func (p *plain) upto(number int) int {
	return p.shelf.lies[api.Key{Kind: api.KBucket, A: number}].Bucket.Upto
}

func (p *plain) forgotten(k api.Key) bool {
	if _, there := p.shelf.lies[k]; there && p.wrong == "what lies there still counts" {
		return false
	}
	return k.B <= p.upto(k.A)
}

func (p *plain) instance(k api.Key) api.Instance {
	if p.forgotten(k) {
		return clear
	}
	return p.shelf.lies[k].Instance
}

func (p *plain) held(k api.Key) mend.Held {
	h := mend.Held{Block: p.shelf.lies[k].Block, Bucket: p.shelf.lies[k].Bucket}
	for l := range p.shelf.lies {
		if k.Kind == api.KBucket && l.Kind == api.KInstance && l.A == k.A && p.instance(l) != clear && l.B > p.upto(k.A) {
			h.Row = append(h.Row, mend.Place{N: l.B, Instance: p.instance(l)})
		}
	}
	sort.Slice(h.Row, func(i, j int) bool { return h.Row[i].N < h.Row[j].N })
	return h
}

// dropping are the keys of the instances of a bucket that lie there up to one, rising.
func (p *plain) dropping(number, upto int) []mend.Change {
	var list []mend.Change
	for k := range p.shelf.lies {
		if k.Kind == api.KInstance && k.A == number && k.B <= upto {
			list = append(list, mend.Change{Key: k, Block: api.Block{Stamp: stamp(-1, -1)}})
		}
	}
	sort.Slice(list, func(i, j int) bool { return list[i].Key.B < list[j].Key.B })
	return list
}

func isDrop(c mend.Change) bool { return c.Block.Stamp == stamp(-1, -1) }

// finish ends a step: all of its records, or as many as the arm says.
func (p *plain) finish(list []mend.Change) api.Errno {
	room := p.hasRoom(list)
	if !room {
		list = nil
	}
	if p.arm >= 0 {
		p.fallen = true
		list = list[:min(len(list), p.arm)]
	}
	for _, c := range list {
		p.records++
		if isDrop(c) {
			delete(p.shelf.lies, c.Key)
		} else {
			p.shelf.lies[c.Key] = c
		}
	}
	switch {
	case p.fallen:
		return api.ErrFallen
	case !room:
		return api.ErrFull
	}
	return api.OK
}

func (p *plain) hasRoom(list []mend.Change) bool {
	most := server.Most(p.c)
	taken, more := 0, 0
	for k := range p.shelf.lies {
		taken += stable.Width(k.Kind, most)
	}
	for _, c := range list {
		if _, there := p.shelf.lies[c.Key]; !there && !isDrop(c) {
			more += stable.Width(c.Key.Kind, most)
		}
	}
	return more == 0 || taken+more <= p.room
}

func (p *plain) packet(m api.Msg) api.Packet {
	b, err := msg.Encode(m, p.c)
	if err != api.OK {
		panic("the plain server tells what may not be")
	}
	return api.Packet{From: api.Addr{Id: p.id}, To: m.To, Data: b}
}

func (p *plain) Step(data []byte) []api.Packet {
	if p.fallen {
		return nil
	}
	m, err := msg.Decode(data, p.c)
	if err != api.OK || m.To != (api.Addr{Id: p.id}) || !p.own(m.Key) {
		p.finish(nil)
		return nil
	}
	list, answer := p.made(m)
	err = p.finish(list)
	heedless := p.wrong == "it answers without room" && err == api.ErrFull || p.wrong == "it answers as it falls" && err == api.ErrFallen
	if answer.Kind == 0 || err != api.OK && !heedless {
		return nil
	}
	return []api.Packet{p.packet(answer)}
}

// made is the table of P1303: the records of a message, and what is sent.
func (p *plain) made(m api.Msg) (list []mend.Change, answer api.Msg) {
	now := mend.Change{Key: m.Key}
	var changed bool
	switch {
	case m.Kind == api.MAsk:
		return nil, mend.Have(m, p.held(m.Key))
	case m.Kind == api.MHave:
		return p.taken(m)
	case m.Kind == api.MQuery || m.Kind == api.MPut:
		b := p.shelf.lies[m.Key].Block
		if b.Stamp == (api.Stamp{}) {
			b.Data = make([]byte, p.c.Block)
		}
		answer = api.Msg{Kind: api.MValue, Stamp: b.Stamp, Block: b.Data}
		if m.Kind == api.MPut {
			now.Block, changed = register.Newer(b, m.Stamp, m.Block)
			answer = api.Msg{Kind: api.MAck}
			if p.wrong == "an older Put is taken" {
				now.Block, changed = api.Block{Stamp: m.Stamp, Data: m.Block}, true
			}
		}
	case p.forgotten(m.Key) && p.wrong != "a forgotten instance is a new one":
		if m.Kind != api.MLearned {
			answer = api.Msg{Kind: api.MBucket, Bucket: p.Bucket(m.Key.A)}
		}
	case m.Kind == api.MPrepare:
		now.Instance, answer, changed = acceptor.Prepare(p.instance(m.Key), m.Stamp)
		if p.wrong == "a promise is not laid down" {
			changed = false
		}
	case m.Kind == api.MAccept:
		now.Instance, answer, changed = acceptor.Accept(p.instance(m.Key), m.Stamp, m.Command)
	case m.Kind == api.MLearned:
		now.Instance, changed = acceptor.Learned(p.instance(m.Key), m.Command)
	}
	if changed {
		list = append(list, now)
	}
	if answer.Kind != 0 {
		answer = answers(m, answer)
	}
	return list, answer
}

func (p *plain) taken(m api.Msg) ([]mend.Change, api.Msg) {
	h := p.held(m.Key)
	switch p.wrong {
	case "an older bucket is taken":
		h.Bucket.Upto, h.Row = 0, nil
	case "an older block is brought":
		h.Block = api.Block{}
	case "what is decided is brought again":
		h.Row = nil
	}
	changes, next, _ := mend.Take(m, h)
	var list []mend.Change
	for _, c := range changes {
		list = append(list, c)
		if c.Key.Kind == api.KBucket && p.wrong != "a bucket that is brought drops nothing" {
			list = append(list, p.dropping(c.Key.A, c.Bucket.Upto)...)
		}
	}
	return list, next
}

func (p *plain) Trim(number, upto int) (int, api.Errno) {
	switch {
	case p.fallen:
		return 0, api.ErrFallen
	case number < 0 || number >= p.c.Buckets:
		return 0, api.ErrBucket
	case upto < 0:
		return 0, api.ErrArg
	}
	k := api.Key{Kind: api.KBucket, A: number}
	if !p.own(k) {
		return 0, p.finish(nil)
	}
	u := p.upto(number)
	v := u
	for v < upto && p.trims(api.Key{Kind: api.KInstance, A: number, B: v + 1}) {
		v++
	}
	var list []mend.Change
	if v > u {
		list = append(list, mend.Change{Key: k, Bucket: p.replay(k, u, v)})
	}
	list = append(list, p.dropping(number, v)...)
	if p.wrong == "a trim drops one more" {
		list = append(list, p.dropping(number, v+1)[len(p.dropping(number, v)):]...)
	}
	if err := p.finish(list); err != api.OK {
		return 0, err
	}
	return p.upto(number), api.OK
}

func (p *plain) trims(k api.Key) bool {
	i := p.instance(k)
	return i.Decided || p.wrong == "what is accepted is trimmed" && i.Command.Kind != 0
}

func (p *plain) replay(k api.Key, u, v int) api.Bucket {
	var list []api.Command
	for n := u + 1; n <= v; n++ {
		list = append(list, p.instance(api.Key{Kind: api.KInstance, A: k.A, B: n}).Command)
	}
	room, from := p.c.Room, p.shelf.lies[k].Bucket
	switch p.wrong {
	case "a trim knows no room":
		room = api.MaxRoom
	case "a trim begins anew":
		from = api.Bucket{Upto: u}
	}
	b, _, err := bucket.Replay(from, room, list...)
	if err != api.OK || msg.Bucket(b, p.c) != api.OK && p.wrong == "" {
		panic("the plain server trims what may not be")
	}
	return b
}

func (p *plain) Mend(other int, k api.Key) ([]api.Packet, api.Errno) {
	r, _ := ring.New(p.c)
	group, wrongKey := r.Group(k)
	switch {
	case p.fallen:
		return nil, api.ErrFallen
	case !slices.Contains(p.c.Servers, other) || other == p.id:
		return nil, api.ErrAddr
	case wrongKey != api.OK || k.Kind == api.KInstance:
		return nil, api.ErrKey
	case !slices.Contains(group, p.id) || !slices.Contains(group, other):
		return nil, api.ErrAddr
	}
	if err := p.finish(nil); err != api.OK {
		return nil, err
	}
	return []api.Packet{p.packet(mend.Ask(p.id, other, k, p.held(k)))}, api.OK
}

func (p *plain) Arm(records int) {
	if !p.fallen {
		p.arm = max(records, 0)
	}
}

func (p *plain) Limit(sectors int) {
	if !p.fallen {
		p.room = min(max(sectors, 0), p.shelf.sectors)
	}
}

func (p *plain) Fallen() bool { return p.fallen }

func (p *plain) Block(k api.Key) api.Block {
	if b := p.shelf.lies[k].Block; !p.fallen && b.Stamp != (api.Stamp{}) {
		return b
	}
	return api.Block{}
}

func (p *plain) Instance(k api.Key) api.Instance {
	if p.fallen {
		return clear
	}
	return p.instance(k)
}

func (p *plain) Bucket(number int) api.Bucket {
	if p.fallen {
		return api.Bucket{}
	}
	return p.shelf.lies[api.Key{Kind: api.KBucket, A: number}].Bucket
}

func (p *plain) Keys() iter.Seq[api.Key] {
	var list []api.Key
	for k, c := range p.shelf.lies {
		if !p.fallen && (c.Block.Stamp != (api.Stamp{}) || c.Bucket.Upto != 0 || k.Kind == api.KInstance && p.instance(k) != clear) {
			list = append(list, k)
		}
	}
	sort.Slice(list, func(i, j int) bool { return ring.Less(list[i], list[j]) })
	return slices.Values(list)
}
