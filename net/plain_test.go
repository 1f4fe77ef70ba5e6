package net_test

import (
	"bytes"
	"iter"
	"slices"

	"cairn/api"
)

// plain says the chapter once more, word by word, over lists that are gone through at each call.
type plain struct {
	rules
	row   []api.Packet // what is under way
	sent  []api.Packet // all that was sent: of each From, Count and To
	stuck []api.Packet // what is under way no more, but counts as if it were: by broken rules alone
}

// rules are what a plain one goes by: each may be broken on purpose, so that the plays can show that they find it out.
type rules struct {
	most          int                                               // of a pair
	count         func(n *plain, q api.Packet) int                  // the count of one that is sent
	lost          func(n *plain, q api.Packet)                      // what becomes of one that finds no room
	room          func(p, q api.Packet) bool                        // whether p takes of q's room
	named         func(p api.Packet, from api.Addr, count int) bool // whether p has the name
	deliver, lose func(n *plain, at []int)                          // what becomes of those of a name: they stand there
	tell          func(n *plain, at []int) api.Packet               // which of them Deliver tells
	refused       func(n *plain, from api.Addr, count int)          // what is made of a name that is not under way
	double        func(n *plain, at []int, q api.Packet)            // what one more like it makes
	doubleFull    func(n *plain, at []int, q api.Packet) api.Errno  // the same where there is no room
	under         func(row []api.Packet) []api.Packet               // what Under goes over
	pair          func(p, q api.Packet) bool                        // whether p is one of those whom Pair counts
	clear         func(n *plain)
}

func sameWay(p, q api.Packet) bool { return p.From == q.From && p.To == q.To }

func sameSender(p, q api.Packet) bool { return p.From == q.From }

// countBy counts all that was sent and is alike by a rule.
func countBy(rule func(p, q api.Packet) bool) func(n *plain, q api.Packet) int {
	return func(n *plain, q api.Packet) int { return many(n.sent, q, rule) + 1 }
}

// first takes off the first of a name.
func first(n *plain, at []int) { n.row = slices.Delete(n.row, at[0], at[0]+1) }

// newPlain goes by the chapter's rules, but for what change says.
func newPlain(change func(r *rules)) *plain {
	n := &plain{rules: rules{
		most:       64,
		count:      countBy(sameSender),
		lost:       func(*plain, api.Packet) {},
		room:       sameWay,
		named:      func(p api.Packet, from api.Addr, count int) bool { return p.From == from && p.Count == count },
		deliver:    first,
		lose:       first,
		tell:       func(n *plain, at []int) api.Packet { return n.row[at[0]] },
		refused:    func(*plain, api.Addr, int) {},
		double:     func(n *plain, _ []int, q api.Packet) { n.row = append(n.row, q) },
		doubleFull: func(*plain, []int, api.Packet) api.Errno { return api.OK },
		under:      func(row []api.Packet) []api.Packet { return row },
		pair:       sameWay,
		clear:      func(n *plain) { n.row = nil },
	}}
	if change != nil {
		change(&n.rules)
	}
	return n
}

// many is how many of a list are alike to q by a rule.
func many(list []api.Packet, q api.Packet, rule func(p, q api.Packet) bool) int {
	n := 0
	for _, p := range list {
		if rule(p, q) {
			n++
		}
	}
	return n
}

func (n *plain) full(q api.Packet) bool {
	return many(n.row, q, n.room)+many(n.stuck, q, n.room) >= n.most
}

func (n *plain) Send(q api.Packet) (int, bool) {
	q.Count, q.Data = n.count(n, q), bytes.Clone(q.Data)
	n.sent = append(n.sent, api.Packet{From: q.From, Count: q.Count, To: q.To})
	if n.full(q) {
		n.lost(n, q)
		return q.Count, false
	}
	n.row = append(n.row, q)
	return q.Count, true
}

// at is where the packets of a name stand.
func (n *plain) at(from api.Addr, count int) []int {
	var at []int
	for i, p := range n.row {
		if n.named(p, from, count) {
			at = append(at, i)
		}
	}
	if at == nil {
		n.refused(n, from, count)
	}
	return at
}

func (n *plain) Deliver(from api.Addr, count int) (api.Packet, api.Errno) {
	at := n.at(from, count)
	if at == nil {
		return api.Packet{}, api.ErrPacket
	}
	p := n.tell(n, at)
	n.deliver(n, at)
	p.Data = bytes.Clone(p.Data)
	return p, api.OK
}

func (n *plain) Lose(from api.Addr, count int) api.Errno {
	at := n.at(from, count)
	if at == nil {
		return api.ErrPacket
	}
	n.lose(n, at)
	return api.OK
}

func (n *plain) Double(from api.Addr, count int) api.Errno {
	at := n.at(from, count)
	if at == nil {
		return api.ErrPacket
	}
	q := n.row[at[0]]
	q.Data = bytes.Clone(q.Data)
	if n.full(q) {
		return n.doubleFull(n, at, q)
	}
	n.double(n, at, q)
	return api.OK
}

func (n *plain) Under() iter.Seq[api.Packet] {
	row := n.under(slices.Clone(n.row))
	return func(yield func(api.Packet) bool) {
		for _, p := range row {
			p.Data = bytes.Clone(p.Data)
			if !yield(p) {
				return
			}
		}
	}
}

func (n *plain) Pair(from, to api.Addr) int {
	q := api.Packet{From: from, To: to}
	return many(n.row, q, n.pair) + many(n.stuck, q, n.pair)
}

func (n *plain) Clear() { n.clear(n) }
