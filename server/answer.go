package server

import (
	"cairn/acceptor"
	"cairn/api"
	"cairn/bucket"
	"cairn/mend"
	"cairn/register"
)

// answer tells what a message makes: records, in the order in which they are to be laid down, and the messages that go behind them.
func (s *Server) answer(m api.Msg) ([]record, []api.Msg) {
	switch m.Kind {
	case api.MQuery, api.MPut:
		return s.answerBlock(m)
	case api.MPrepare, api.MAccept, api.MLearned:
		return s.answerInstance(m)
	case api.MAsk:
		return nil, []api.Msg{mend.Have(m, s.memory.held(m.Key))}
	}
	return s.take(m) // no other kind than MHave goes to a server
}

func (s *Server) answerBlock(m api.Msg) ([]record, []api.Msg) {
	held, there := s.memory.blocks[m.Key]
	if !there {
		held.Data = make([]byte, s.config.Block)
	}
	if m.Kind == api.MQuery {
		return nil, reply(m, api.Msg{Kind: api.MValue, Stamp: held.Stamp, Block: held.Data})
	}
	next, changed := register.Newer(held, m.Stamp, m.Block)
	return laid(changed, mend.Change{Key: m.Key, Block: next}), reply(m, api.Msg{Kind: api.MAck})
}

func (s *Server) answerInstance(m api.Msg) ([]record, []api.Msg) {
	number, n := m.Key.A, m.Key.B
	forgotten := s.memory.forgotten(number, n)
	held := s.memory.instance(number, n)
	if m.Kind == api.MLearned {
		next, changed := acceptor.Learned(held, m.Command)
		return laid(changed && !forgotten, mend.Change{Key: m.Key, Instance: next}), nil
	}
	if forgotten {
		return nil, reply(m, api.Msg{Kind: api.MBucket, Bucket: s.memory.buckets[number]})
	}
	next, a, changed := ballot(held, m)
	return laid(changed, mend.Change{Key: m.Key, Instance: next}), reply(m, a)
}

func ballot(held api.Instance, m api.Msg) (api.Instance, api.Msg, bool) {
	if m.Kind == api.MPrepare {
		return acceptor.Prepare(held, m.Stamp)
	}
	return acceptor.Accept(held, m.Stamp, m.Command)
}

// take tells what a mend has brought, and what it asks for then, if there is more.
func (s *Server) take(m api.Msg) ([]record, []api.Msg) {
	changes, ask, more := mend.Take(m, s.memory.held(m.Key))
	var list []record
	for _, c := range changes {
		list = append(list, record{Change: c})
		if c.Key.Kind == api.KBucket {
			list = append(list, s.dropped(c.Key.A, c.Bucket.Upto)...)
		}
	}
	if !more {
		return list, nil
	}
	return list, []api.Msg{ask}
}

// trimming tells the records of a trim: the bucket behind the commands that are known up to an instance, and what is forgotten then, or was already.
func (s *Server) trimming(number, upto int) []record {
	b := s.memory.buckets[number]
	commands := s.memory.decided(number, upto)
	b, _, _ = bucket.Replay(b, s.config.Room, commands...) // it refuses none: what is held is right
	list := laid(len(commands) > 0, mend.Change{Key: bucketKey(number), Bucket: b})
	return append(list, s.dropped(number, b.Upto)...)
}

// dropped are the records of a bucket's instances up to one of them, rising.
func (s *Server) dropped(number, upto int) []record {
	var list []record
	for _, n := range s.memory.numbers(number) {
		if n <= upto {
			list = append(list, record{Change: mend.Change{Key: instanceKey(number, n)}, gone: true})
		}
	}
	return list
}

// laid is one record, or none, where nothing is changed.
func laid(changed bool, c mend.Change) []record {
	if !changed {
		return nil
	}
	return []record{{Change: c}}
}

// reply sends an answer back to who asked, of what was asked.
func reply(m, a api.Msg) []api.Msg {
	a.From, a.To, a.Op, a.Round, a.Key = m.To, m.From, m.Op, m.Round, m.Key
	return []api.Msg{a}
}
