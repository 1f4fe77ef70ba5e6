package net

import (
	"bytes"
	"cmp"
	"slices"

	"cairn/api"
)

// pair is the way from one address to another.
type pair struct {
	from, to api.Addr
}

// name is a packet's: who sent it, and the how manieth of theirs it is.
type name struct {
	from  api.Addr
	count int
}

// alike is what all packets of one name are. They can't differ, since it is kept once for all of them; their places alone are each one's own.
type alike struct {
	to     api.Addr
	data   []byte // never changed: sequences that were made earlier may still go over it
	places []int  // rising: a packet that came later has a greater one
}

// come puts a packet behind all others; false: it finds no room on its way.
func (n *Net) come(k name, a alike) bool {
	way := pair{k.from, a.to}
	if n.pairs[way] >= api.MaxWay {
		return false
	}
	n.came++
	n.pairs[way]++
	a.places = append(a.places, n.came)
	n.named[k] = a
	return true
}

// leave takes the first packet of a name off; false: there is none.
func (n *Net) leave(k name) (alike, bool) {
	a, there := n.named[k]
	if !there {
		return alike{}, false
	}
	if a.places = a.places[1:]; len(a.places) > 0 {
		n.named[k] = a
	} else {
		delete(n.named, k)
	}
	way := pair{k.from, a.to}
	if n.pairs[way]--; n.pairs[way] == 0 {
		delete(n.pairs, way)
	}
	return a, true
}

// told is a packet as others may have it: its bytes are theirs.
func told(k name, a alike) api.Packet {
	return api.Packet{From: k.from, Count: k.count, To: a.to, Data: bytes.Clone(a.data)}
}

// standing is one packet in the order of all.
type standing struct {
	place int
	name  name
	alike alike
}

// row is all that is under way, in its order.
func (n *Net) row() []standing {
	var row []standing
	for k, a := range n.named {
		for _, place := range a.places {
			row = append(row, standing{place, k, a})
		}
	}
	slices.SortFunc(row, func(a, b standing) int { return cmp.Compare(a.place, b.place) })
	return row
}
