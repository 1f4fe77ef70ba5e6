package net_test

import (
	"bytes"
	"slices"

	"cairn/api"
)

// wrong is a rule of the chapter that is broken on purpose.
type wrong struct {
	name   string
	change func(r *rules)
}

// sendsOne counts one more packet of a sender.
func sendsOne(n *plain, from api.Addr) { n.sent = append(n.sent, api.Packet{From: from}) }

// last takes off the last of a name.
func last(n *plain, at []int) { first(n, at[len(at)-1:]) }

// allOfIt takes off all of a name.
func allOfIt(n *plain, at []int) {
	for i := range slices.Backward(at) {
		first(n, at[i:])
	}
}

// noneOfIt takes nothing off.
func noneOfIt(*plain, []int) {}

// swapped takes off the first of a name, and the last of all stands in its place.
func swapped(n *plain, at []int) {
	end := len(n.row) - 1
	n.row[at[0]] = n.row[end]
	n.row = n.row[:end]
}

// sticking takes off the first of a name, and makes no room.
func sticking(n *plain, at []int) {
	n.stuck = append(n.stuck, n.row[at[0]])
	first(n, at)
}

// forgetting takes off the first of a name; a sender of whom nothing is under way then has sent nothing.
func forgetting(n *plain, at []int) {
	p := n.row[at[0]]
	first(n, at)
	if many(n.row, p, sameSender) == 0 {
		n.sent = slices.DeleteFunc(n.sent, func(q api.Packet) bool { return sameSender(p, q) })
	}
}

// sameIds is a pair of which servers and clients are not told apart.
func sameIds(p, q api.Packet) bool { return p.From.Id == q.From.Id && p.To.Id == q.To.Id }

// eitherWay is a pair and the pair turned round.
func eitherWay(p, q api.Packet) bool {
	return sameWay(p, q) || p.From == q.To && p.To == q.From
}

// wrongSends are broken rules of Send, of the counts and of the bound.
func wrongSends() []wrong {
	return []wrong{
		{"a lost packet has no count", func(r *rules) { r.lost = func(n *plain, _ api.Packet) { n.sent = n.sent[:len(n.sent)-1] } }},
		{"a lost packet is under way", func(r *rules) { r.lost = func(n *plain, q api.Packet) { n.row = append(n.row, q) } }},
		{"the first one makes room", func(r *rules) {
			r.lost = func(n *plain, q api.Packet) {
				i := slices.IndexFunc(n.row, func(p api.Packet) bool { return sameWay(p, q) })
				n.row = append(slices.Delete(n.row, i, i+1), q)
			}
		}},
		{"counts are of a pair", func(r *rules) { r.count = countBy(sameWay) }},
		{"counts are of an Id", func(r *rules) { r.count = countBy(func(p, q api.Packet) bool { return p.From.Id == q.From.Id }) }},
		{"counts are of all", func(r *rules) { r.count = countBy(func(p, q api.Packet) bool { return true }) }},
		{"counts are the receiver's", func(r *rules) { r.count = countBy(func(p, q api.Packet) bool { return p.To == q.To }) }},
		{"counts are from 0 on", func(r *rules) { r.count = func(n *plain, q api.Packet) int { return many(n.sent, q, sameSender) } }},
		{"the count that is handed in is taken", func(r *rules) { r.count = func(_ *plain, q api.Packet) int { return q.Count } }},
		{"counts are of what is under way", func(r *rules) { r.count = func(n *plain, q api.Packet) int { return many(n.row, q, sameSender) + 1 } }},
		{"counts go with the last one delivered", func(r *rules) { r.deliver = forgetting }},
		{"counts go with the last one lost", func(r *rules) { r.lose = forgetting }},
		{"63 are the most", func(r *rules) { r.most = 63 }},
		{"65 are the most", func(r *rules) { r.most = 65 }},
		{"there is room without end", func(r *rules) { r.most = 1 << 40 }},
		{"room is of both ways", func(r *rules) { r.room = eitherWay }},
		{"room is of Ids", func(r *rules) { r.room = sameIds }},
		{"room is the sender's", func(r *rules) { r.room = func(p, q api.Packet) bool { return p.From == q.From } }},
		{"room is the receiver's", func(r *rules) { r.room = func(p, q api.Packet) bool { return p.To == q.To } }},
		{"room is of all", func(r *rules) { r.room = func(p, q api.Packet) bool { return true } }},
		{"to oneself there is room without end", func(r *rules) { r.room = func(p, q api.Packet) bool { return sameWay(p, q) && q.From != q.To } }},
		{"no bytes take no room", func(r *rules) { r.room = func(p, q api.Packet) bool { return sameWay(p, q) && len(p.Data) > 0 } }},
	}
}

// wrongNames are broken rules of Deliver and Lose, and of names that are not under way.
func wrongNames() []wrong {
	return []wrong{
		{"the last of a name is delivered", func(r *rules) { r.deliver = last }},
		{"the last of a name is lost", func(r *rules) { r.lose = last }},
		{"all of a name are delivered", func(r *rules) { r.deliver = allOfIt }},
		{"all of a name are lost", func(r *rules) { r.lose = allOfIt }},
		{"what is delivered stays", func(r *rules) { r.deliver = noneOfIt }},
		{"what is lost stays", func(r *rules) { r.lose = noneOfIt }},
		{"Deliver puts the last in its place", func(r *rules) { r.deliver = swapped }},
		{"Lose puts the last in its place", func(r *rules) { r.lose = swapped }},
		{"what is delivered makes no room", func(r *rules) { r.deliver = sticking }},
		{"what is lost makes no room", func(r *rules) { r.lose = sticking }},
		{"Deliver tells the first of all", func(r *rules) { r.tell = func(n *plain, _ []int) api.Packet { return n.row[0] } }},
		{"Deliver tells no count", func(r *rules) {
			r.tell = func(n *plain, at []int) api.Packet {
				p := n.row[at[0]]
				p.Count = 0
				return p
			}
		}},
		{"a name is its count", func(r *rules) { r.named = func(p api.Packet, _ api.Addr, count int) bool { return p.Count == count } }},
		{"a name has no kind", func(r *rules) {
			r.named = func(p api.Packet, from api.Addr, count int) bool { return p.From.Id == from.Id && p.Count == count }
		}},
		{"a name is its sender", func(r *rules) { r.named = func(p api.Packet, from api.Addr, _ int) bool { return p.From == from } }},
		{"counts of names are from 0 on", func(r *rules) {
			r.named = func(p api.Packet, from api.Addr, count int) bool { return p.From == from && p.Count == count+1 }
		}},
		{"who is refused has sent one more", func(r *rules) { r.refused = func(n *plain, from api.Addr, _ int) { sendsOne(n, from) } }},
		{"a refused name comes under way", func(r *rules) {
			r.refused = func(n *plain, from api.Addr, count int) {
				n.row = append(n.row, api.Packet{From: from, Count: count, To: b})
			}
		}},
		{"a refused name loses the last", func(r *rules) {
			r.refused = func(n *plain, _ api.Addr, _ int) { n.row = n.row[:max(0, len(n.row)-1)] }
		}},
	}
}

// moved puts the first of a name behind all others.
func moved(n *plain, at []int, q api.Packet) {
	first(n, at)
	n.row = append(n.row, q)
}

// wrongDoubles are broken rules of Double.
func wrongDoubles() []wrong {
	return []wrong{
		{"Double stands behind the first", func(r *rules) {
			r.double = func(n *plain, at []int, q api.Packet) { n.row = slices.Insert(n.row, at[0]+1, q) }
		}},
		{"Double stands ahead of the first", func(r *rules) {
			r.double = func(n *plain, _ []int, q api.Packet) { n.row = slices.Insert(n.row, 0, q) }
		}},
		{"Double puts it behind all others", func(r *rules) {
			r.double = moved
		}},
		{"Double does nothing", func(r *rules) { r.double = func(*plain, []int, api.Packet) {} }},
		{"Double doubles all of a name", func(r *rules) {
			r.double = func(n *plain, at []int, q api.Packet) {
				for range at {
					n.row = append(n.row, q)
				}
			}
		}},
		{"Double counts as sent", func(r *rules) {
			r.double = func(n *plain, _ []int, q api.Packet) {
				n.row = append(n.row, q)
				sendsOne(n, q.From)
			}
		}},
		{"Double has a name of its own", func(r *rules) {
			r.double = func(n *plain, _ []int, q api.Packet) { n.Send(q) }
		}},
		{"Double has no bytes", func(r *rules) {
			r.double = func(n *plain, _ []int, q api.Packet) {
				q.Data = nil
				n.row = append(n.row, q)
			}
		}},
		{"Double goes back", func(r *rules) {
			r.double = func(n *plain, _ []int, q api.Packet) {
				q.To = q.From
				n.row = append(n.row, q)
			}
		}},
		{"Double passes the bound", func(r *rules) {
			r.doubleFull = func(n *plain, _ []int, q api.Packet) api.Errno {
				n.row = append(n.row, q)
				return api.OK
			}
		}},
		{"Double is refused for want of room", func(r *rules) {
			r.doubleFull = func(*plain, []int, api.Packet) api.Errno { return api.ErrFull }
		}},
		{"Double finds no packet for want of room", func(r *rules) {
			r.doubleFull = func(*plain, []int, api.Packet) api.Errno { return api.ErrPacket }
		}},
		{"Double for want of room puts it behind all others", func(r *rules) {
			r.doubleFull = func(n *plain, at []int, q api.Packet) api.Errno {
				moved(n, at, q)
				return api.OK
			}
		}},
		{"Double for want of room loses it", func(r *rules) {
			r.doubleFull = func(n *plain, at []int, _ api.Packet) api.Errno {
				first(n, at)
				return api.OK
			}
		}},
	}
}

// wrongTells are broken rules of Under, Pair and Clear.
func wrongTells() []wrong {
	byName := func(p, q api.Packet) bool { return p.From == q.From && p.Count == q.Count }
	return []wrong{
		{"Under begins with the last", func(r *rules) {
			r.under = func(row []api.Packet) []api.Packet {
				slices.Reverse(row)
				return row
			}
		}},
		{"Under goes by Id", func(r *rules) {
			r.under = func(row []api.Packet) []api.Packet {
				slices.SortStableFunc(row, func(p, q api.Packet) int { return p.From.Id - q.From.Id })
				return row
			}
		}},
		{"Under goes by count", func(r *rules) {
			r.under = func(row []api.Packet) []api.Packet {
				slices.SortStableFunc(row, func(p, q api.Packet) int { return p.Count - q.Count })
				return row
			}
		}},
		{"Under tells neighbours of one name once", func(r *rules) {
			r.under = func(row []api.Packet) []api.Packet { return slices.CompactFunc(row, byName) }
		}},
		{"Under tells no bytes", func(r *rules) {
			r.under = func(row []api.Packet) []api.Packet {
				for i := range row {
					row[i].Data = nil
				}
				return row
			}
		}},
		{"Under tells alike bytes once", func(r *rules) {
			r.under = func(row []api.Packet) []api.Packet {
				return slices.CompactFunc(row, func(p, q api.Packet) bool { return sameWay(p, q) && bytes.Equal(p.Data, q.Data) })
			}
		}},
		{"Pair is of both ways", func(r *rules) { r.pair = eitherWay }},
		{"Pair is of Ids", func(r *rules) { r.pair = sameIds }},
		{"Pair is of the sender", func(r *rules) { r.pair = func(p, q api.Packet) bool { return p.From == q.From } }},
		{"Pair is of the receiver", func(r *rules) { r.pair = func(p, q api.Packet) bool { return p.To == q.To } }},
		{"Clear forgets the counts", func(r *rules) {
			r.clear = func(n *plain) { n.row, n.sent = nil, nil }
		}},
		{"Clear makes no room", func(r *rules) {
			r.clear = func(n *plain) { n.row, n.stuck = nil, append(n.stuck, n.row...) }
		}},
		{"Clear keeps the last", func(r *rules) {
			r.clear = func(n *plain) { n.row = n.row[max(0, len(n.row)-1):] }
		}},
		{"Clear does nothing", func(r *rules) { r.clear = func(*plain) {} }},
	}
}
