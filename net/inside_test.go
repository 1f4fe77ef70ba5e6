package net

import (
	"testing"

	"cairn/api"
)

// What is kept is no more than what is under way, and the counts.
func TestP1606NothingElseIsKept(t *testing.T) {
	for _, goes := range []func(n *Net, from api.Addr, count int){
		func(n *Net, from api.Addr, count int) { n.Deliver(from, count) },
		func(n *Net, from api.Addr, count int) { n.Lose(from, count) },
		func(n *Net, from api.Addr, count int) { n.Clear() },
	} {
		n := New()
		for id := range 10 {
			from := api.Addr{Id: id}
			for i := range 100 {
				n.Send(api.Packet{From: from, To: api.Addr{Client: true, Id: i % 3}})
				n.Double(from, i)
				n.Pair(api.Addr{Id: i}, from)
				n.Lose(from, -i)
			}
			for i := range 300 {
				for k := range 2 {
					goes(n, from, i/2+k)
				}
			}
		}
		for range n.Under() {
			t.Fatal("something is under way")
		}
		if len(n.pairs) != 0 || len(n.named) != 0 || len(n.sent) != 10 {
			t.Fatalf("%d pairs, %d names, %d senders are kept", len(n.pairs), len(n.named), len(n.sent))
		}
	}
}

// A packet that is doubled and delivered for ever needs no more memory at the end than at the beginning.
func TestP1605PlacesAreNotKept(t *testing.T) {
	n := New()
	from := api.Addr{Id: 1}
	n.Send(api.Packet{From: from})
	for range 100000 {
		n.Double(from, 1)
		n.Deliver(from, 1)
	}
	if places := n.named[name{from, 1}].places; len(places) != 1 || cap(places) > 2*api.MaxWay {
		t.Fatalf("%d places, with room for %d", len(places), cap(places))
	}
}
