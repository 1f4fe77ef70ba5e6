package client_test

import (
	"cairn/acceptor"
	"cairn/api"
	"cairn/msg"
	"cairn/register"
)

// host is a server of a play.
type host interface {
	Step(data []byte) []api.Packet
}

// keeper is a server that answers by chapters 7 and 8, and forgets nothing.
type keeper struct {
	c         api.Config
	blocks    map[api.Key]api.Block
	instances map[api.Key]api.Instance
}

func newKeeper(c api.Config) *keeper {
	return &keeper{c, map[api.Key]api.Block{}, map[api.Key]api.Instance{}}
}

func (k *keeper) Step(data []byte) []api.Packet {
	m, err := msg.Decode(data, k.c)
	if err != api.OK {
		panic(err)
	}
	a, answers := k.answer(m)
	if !answers {
		return nil
	}
	a.From, a.To, a.Op, a.Round, a.Key = m.To, m.From, m.Op, m.Round, m.Key
	data, err = msg.Encode(a, k.c)
	if err != api.OK {
		panic(err)
	}
	return []api.Packet{{From: a.From, To: a.To, Data: data}}
}

// answer is what a message makes of what is held, and the answer; to an MLearned there is none.
func (k *keeper) answer(m api.Msg) (a api.Msg, answers bool) {
	b, there := k.blocks[m.Key]
	if !there {
		b.Data = make([]byte, k.c.Block)
	}
	i := k.instances[m.Key]
	switch m.Kind {
	case api.MQuery:
		return api.Msg{Kind: api.MValue, Stamp: b.Stamp, Block: b.Data}, true
	case api.MPut:
		k.blocks[m.Key], _ = register.Newer(b, m.Stamp, m.Block)
		return api.Msg{Kind: api.MAck}, true
	case api.MPrepare:
		k.instances[m.Key], a, _ = acceptor.Prepare(i, m.Stamp)
		return a, true
	case api.MAccept:
		k.instances[m.Key], a, _ = acceptor.Accept(i, m.Stamp, m.Command)
		return a, true
	}
	k.instances[m.Key], _ = acceptor.Learned(i, m.Command)
	return api.Msg{}, false
}
