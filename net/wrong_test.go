package net_test

import (
	"testing"

	"cairn/api"
	"cairn/net"
)

// noCounts are those that no packet has of a sender who has sent three.
var noCounts = []int{-1 << 63, -1 << 40, -3, -1, 0, 4, 5, 65, 1 << 40, 1<<63 - 1}

func TestP1603NamesThatAreNotUnderWay(t *testing.T) {
	n := net.New()
	want := []api.Packet{packet(a, 1, b, "x"), packet(a, 2, c, "y"), packet(a, 3, a, "z")}
	for _, p := range want {
		mustSend(t, n, p.From, p.To, string(p.Data), p.Count, true)
	}
	for _, count := range noCounts {
		mustRefuse(t, n, a, count)
	}
	// Nobody else has sent anything, those to whom it goes among them.
	for _, from := range append(addrs[1:], strange...) {
		for _, count := range append(noCounts, 1, 2, 3) {
			mustRefuse(t, n, from, count)
		}
	}
	mustUnder(t, n, want...)
	mustDeliver(t, n, want[1])
	mustRefuse(t, n, a, 2)
	mustLose(t, n, a, 1)
	mustRefuse(t, n, a, 1)
	n.Clear()
	mustRefuse(t, n, a, 3)
	// What was refused has used no count, of nobody.
	mustSend(t, n, a, b, "x", 4, true)
	for _, from := range append(addrs[1:], strange...) {
		mustSend(t, n, from, b, "x", 1, true)
	}
}

// Addresses that no configuration has are as good as others, and unlike one another.
func TestP1602StrangeAddresses(t *testing.T) {
	n := net.New()
	var want []api.Packet
	for _, from := range strange {
		for i := range 64 {
			mustSend(t, n, from, a, "q", i+1, true)
		}
		want = append(want, run(from, a, "q", 1, 64)...)
		mustSend(t, n, from, a, "q", 65, false)
		mustPair(t, n, from, a, 64)
		mustPair(t, n, a, from, 0)
	}
	mustUnder(t, n, want...)
	for i, p := range want {
		mustDeliver(t, n, p)
		mustRefuse(t, n, p.From, p.Count)
		mustUnder(t, n, want[i+1:]...)
	}
}

// A Net that New did not make is as one that it made.
func TestP1ANetThatNewDidNotMake(t *testing.T) {
	t.Parallel()
	for _, x := range few {
		n := new(net.Net)
		mustUnder(t, n)
		mustRefuse(t, n, a, 1)
		n.Clear()
		x.do(n)
		mustUnder(t, n, under(newPlain(nil), x)...)
	}
	made := func() way { return new(net.Net) }
	mustBePlain(t, shortPlays, made)
	mustBePlain(t, longPlays, made)
}

// under is what is under way behind a call.
func under(n *plain, x call) []api.Packet {
	x.do(n)
	return n.row
}
