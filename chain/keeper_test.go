package chain_test

import (
	"cairn/acceptor"
	"cairn/api"
	"cairn/bucket"
)

// keeper is what a server of a play holds: its trimmed bucket, and the instances behind that.
type keeper struct {
	room    int
	trimmed api.Bucket
	at      map[int]api.Instance
}

func newKeeper(room int, trimmed api.Bucket) *keeper {
	return &keeper{room: room, trimmed: trimmed, at: map[int]api.Instance{}}
}

// answered is what a message makes of an instance, and what is answered; to an MLearned nothing, and for an instance that is forgotten the bucket.
func (k *keeper) answered(m api.Msg) []api.Msg {
	v := m.Key.B
	a := api.Msg{Kind: api.MBucket, Bucket: k.trimmed}
	switch forgotten := v <= k.trimmed.Upto; {
	case m.Kind == api.MLearned:
		if !forgotten {
			k.at[v], _ = acceptor.Learned(k.at[v], m.Command)
		}
		return nil
	case forgotten:
	case m.Kind == api.MPrepare:
		k.at[v], a, _ = acceptor.Prepare(k.at[v], m.Stamp)
	default:
		k.at[v], a, _ = acceptor.Accept(k.at[v], m.Stamp, m.Command)
	}
	a.From, a.To, a.Op, a.Round, a.Key = m.To, m.From, m.Op, m.Round, m.Key
	return []api.Msg{a}
}

// knows is the greatest number up to which it knows all instances as decided.
func (k *keeper) knows() int {
	v := k.trimmed.Upto
	for k.at[v+1].Decided {
		v++
	}
	return v
}

// trim forgets the instances up to one that it knows.
func (k *keeper) trim(upto int) {
	for v := k.trimmed.Upto + 1; v <= upto; v++ {
		k.trimmed, _, _ = bucket.Apply(k.trimmed, k.at[v].Command, k.room)
		delete(k.at, v)
	}
}
