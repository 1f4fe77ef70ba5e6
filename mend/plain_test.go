package mend_test

import (
	"slices"

	"cairn/api"
	"cairn/mend"
)

// mender is the package, or the plain one that it is held against.
type mender interface {
	Ask(from, to int, k api.Key, h mend.Held) api.Msg
	Have(ask api.Msg, h mend.Held) api.Msg
	Take(have api.Msg, h mend.Held) ([]mend.Change, api.Msg, bool)
}

// own is the package.
type own struct{}

func (own) Ask(from, to int, k api.Key, h mend.Held) api.Msg { return mend.Ask(from, to, k, h) }

func (own) Have(ask api.Msg, h mend.Held) api.Msg { return mend.Have(ask, h) }

func (own) Take(have api.Msg, h mend.Held) ([]mend.Change, api.Msg, bool) { return mend.Take(have, h) }

// plain says the chapter once more, word by word; wrong names a rule that it breaks, so that the plays can show that they find it out.
type plain struct{ wrong string }

// found tells the instance n of a row: the zero one, if it does not stand there.
func found(h mend.Held, n int) api.Instance {
	i := slices.IndexFunc(h.Row, func(p mend.Place) bool { return p.N == n })
	if i < 0 {
		return api.Instance{}
	}
	return h.Row[i].Instance
}

// edgeOf is the greatest number, Upto or above, such that all instances from Upto + 1 to it are Decided.
func edgeOf(h mend.Held) int {
	e := h.Bucket.Upto
	for i := 0; i < len(h.Row) && h.Row[i].N == e+1 && h.Row[i].Instance.Decided; i++ {
		e++
	}
	return e
}

// topOf is the number of the last Decided one; Upto, if none is.
func topOf(h mend.Held) int {
	for _, p := range slices.Backward(h.Row) {
		if p.Instance.Decided {
			return p.N
		}
	}
	return h.Bucket.Upto
}

func (r plain) Ask(from, to int, k api.Key, h mend.Held) api.Msg {
	m := api.Msg{Kind: api.MAsk, From: server(from), To: server(to), Key: k}
	switch {
	case k.Kind == api.KBlock:
	case k.Kind == api.KBucket && r.wrong == "asks from the top":
		m.Stamp.N = topOf(h) + 1
	case k.Kind == api.KBucket && r.wrong == "asks from what is trimmed":
		m.Stamp.N = h.Bucket.Upto + 1
	case k.Kind == api.KBucket:
		m.Stamp.N = edgeOf(h) + 1
	default:
		return none
	}
	return m
}

func (r plain) Have(ask api.Msg, h mend.Held) api.Msg {
	m := api.Msg{Kind: api.MHave, From: ask.To, To: ask.From, Key: ask.Key}
	n, upto, top := ask.Stamp.N, h.Bucket.Upto, topOf(h)
	if r.wrong == "trimmed alike is not told" {
		upto--
	}
	switch {
	case ask.Kind == api.MAsk && ask.Key.Kind == api.KBlock:
		if h.Block.Stamp != stamp(0, 0) {
			m.Stamp, m.Block = h.Block.Stamp, h.Block.Data
		}
	case ask.Kind != api.MAsk || ask.Key.Kind != api.KBucket || n < 1 || n > last+1:
		return none
	case upto >= n:
		m.Bucket = h.Bucket
		m.More = top > h.Bucket.Upto && r.wrong != "no more behind a bucket"
	default:
		m.Stamp.N = n
		for i := n; i <= top && i < n+64; i++ {
			c := found(h, i)
			if r.wrong == "the accepted are told" && c.Accepted != stamp(0, 0) {
				c.Decided = true
			}
			switch {
			case c.Decided:
				m.Commands = append(m.Commands, c.Command)
			case r.wrong != "gaps are closed":
				m.Commands = append(m.Commands, zero)
			}
		}
		m.More = top > n+63 && r.wrong != "no more behind commands" || r.wrong == "more and more"
	}
	return m
}

func (r plain) Take(have api.Msg, h mend.Held) ([]mend.Change, api.Msg, bool) {
	var list []mend.Change
	n, upto := have.Stamp.N, have.Bucket.Upto
	next := 0
	switch {
	case have.Kind != api.MHave:
		return nil, none, false
	case have.Key.Kind == api.KBlock:
		if below(h.Block.Stamp, have.Stamp) || r.wrong == "each block is newer" {
			list = append(list, mend.Change{Key: have.Key, Block: api.Block{Stamp: have.Stamp, Data: have.Block}})
		}
		return list, none, false
	case have.Key.Kind == api.KBucket && upto >= 1 && upto <= last:
		if upto > edgeOf(h) || r.wrong == "each bucket is newer" {
			list = append(list, mend.Change{Key: have.Key, Bucket: have.Bucket})
		}
		next = upto + 1
	case have.Key.Kind == api.KBucket && upto == 0 && n >= 1 && n <= last+1:
		for i, c := range have.Commands {
			k := api.Key{Kind: api.KInstance, A: have.Key.A, B: n + i}
			lacks := !found(h, k.B).Decided || r.wrong == "what is decided is decided again"
			if c != zero && k.B > h.Bucket.Upto && k.B <= last && lacks {
				list = append(list, mend.Change{Key: k, Instance: api.Instance{Command: c, Decided: true}})
			}
		}
		next = n + len(have.Commands)
	default:
		return nil, none, false
	}
	if r.wrong == "asks on from the edge" {
		next = edgeOf(lay(h, list)) + 1
	}
	if !have.More || upto == 0 && len(have.Commands) == 0 {
		return list, none, false
	}
	return list, api.Msg{Kind: api.MAsk, From: have.To, To: have.From, Key: have.Key, Stamp: stamp(next, 0)}, true
}
