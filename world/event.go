package world

import (
	"cairn/api"
	"cairn/msg"
)

// fields are some of an event's, as bits.
type fields int

const (
	serverField fields = 1 << iota
	otherField
	clientField
	addrField
	nField
	tornField
	uptoField
	keyField
	opField
	dataField
)

// named are the fields that a kind names; each kind names some.
func named(kind int) fields {
	switch kind {
	case api.EInvoke:
		return clientField | opField
	case api.EDeliver, api.ELose, api.EDouble:
		return addrField | nField
	case api.ETick, api.EStop:
		return clientField
	case api.EFall, api.EQuota:
		return serverField | nField
	case api.ETear:
		return serverField | nField | tornField
	case api.EStart:
		return serverField
	case api.ETrim:
		return serverField | nField | uptoField
	case api.EMend:
		return serverField | otherField | keyField
	case api.EJunk:
		return serverField | dataField
	}
	return 0
}

// filled are the fields of an event that are not zero.
func filled(e api.Event) fields {
	var all fields
	for _, x := range [...]struct {
		field fields
		is    bool
	}{
		{serverField, e.Server != 0}, {otherField, e.Other != 0}, {clientField, e.Client != 0}, {addrField, e.Addr != api.Addr{}},
		{nField, e.N != 0}, {tornField, e.Torn != 0}, {uptoField, e.Upto != 0}, {keyField, e.Key != api.Key{}},
		{opField, !isNone(e.Op)}, {dataField, len(e.Data) > 0},
	} {
		if x.is {
			all |= x.field
		}
	}
	return all
}

func isNone(o api.Op) bool {
	none := api.File{}
	return o.Kind == 0 && o.Name == "" && o.Other == "" && o.File == none && o.New == none && o.At == 0 && o.N == 0 && len(o.Data) == 0
}

// refusal tells why an event is none of this world, ahead of what its machine answers; OK: it is one.
func (w *World) refusal(e api.Event) api.Errno {
	names := named(e.Kind)
	switch {
	case names == 0, filled(e)&^names != 0, e.N < 0, e.Torn < 0, e.Upto < 0:
		return api.ErrEvent
	case w.machineOf(e) == nil:
		return api.ErrAddr
	case e.Kind == api.EJunk && w.isMessage(e.Data):
		return api.ErrEvent
	}
	return api.OK
}

// machineOf is the one that an event names: a server, a client; where it names none of these, the way; nil: there is no such one.
func (w *World) machineOf(e api.Event) machine {
	switch names := named(e.Kind); {
	case names&serverField != 0:
		return w.at(api.Addr{Id: e.Server})
	case names&clientField != 0:
		return w.at(api.Addr{Client: true, Id: e.Client})
	}
	return &w.way
}

// at is the server or client of an address; nil: the world has none there.
func (w *World) at(a api.Addr) machine {
	if a.Client {
		if s, there := w.clients[a.Id]; there {
			return s
		}
		return nil
	}
	if p, there := w.servers[a.Id]; there {
		return p
	}
	return nil
}

func (w *World) isMessage(data []byte) bool {
	_, err := msg.Decode(data, w.config)
	return err == api.OK
}

// handing is how a machine is handed a task: at once, or in a goroutine of its own.
type handing func(m machine, t task) answer

func atOnce(m machine, t task) answer { return m.do(t) }

// event does one event.
func (w *World) event(e api.Event, hand handing) api.Errno {
	if err := w.refusal(e); err != api.OK {
		return err
	}
	a := hand(w.machineOf(e), task{Event: e})
	if e.Kind == api.EDeliver && a.err == api.OK {
		a = w.receive(a.packets[0], hand)
	}
	w.note(a.lines)
	if len(a.packets) > 0 {
		hand(&w.way, task{send: a.packets})
	}
	return a.err
}

// receive hands a packet to whom it goes; where there is nobody it is lost.
func (w *World) receive(p api.Packet, hand handing) answer {
	to := w.at(p.To)
	if to == nil {
		return answer{}
	}
	return hand(to, task{Event: api.Event{Kind: api.EDeliver, Data: p.Data}})
}

// note puts lines into the history. What is decided in an instance several clients learn: it is told once.
func (w *World) note(lines []api.Line) {
	for _, l := range lines {
		if l.Kind == api.HLearn {
			if _, there := w.learned[l.Key]; there {
				continue
			}
			w.learned[l.Key] = struct{}{}
		}
		w.lines = append(w.lines, l)
	}
}
