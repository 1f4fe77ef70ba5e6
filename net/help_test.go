package net_test

import (
	"bytes"
	"fmt"
	"iter"
	"slices"
	"strings"
	"testing"

	"cairn/api"
	"cairn/net"
)

// way is a Net, or the plain one that it is held against.
type way interface {
	Send(p api.Packet) (int, bool)
	Deliver(from api.Addr, count int) (api.Packet, api.Errno)
	Lose(from api.Addr, count int) api.Errno
	Double(from api.Addr, count int) api.Errno
	Under() iter.Seq[api.Packet]
	Pair(from, to api.Addr) int
	Clear()
}

// These stand here to be compiled: the faces have these types.
var (
	_ func() *net.Net = net.New
	_ way             = (*net.Net)(nil)
)

// a and c are a server and a client of one Id.
var (
	a = api.Addr{Id: 1}
	b = api.Addr{Id: 2}
	c = api.Addr{Client: true, Id: 1}
)

// addrs are those that plays go between.
var addrs = []api.Addr{a, b, c, {Client: true, Id: 2}}

// strange are addresses that no configuration has.
var strange = []api.Addr{{}, {Client: true}, {Id: -1}, {Client: true, Id: -1}, {Id: 256}, {Client: true, Id: 256}, {Id: 1 << 40}, {Id: -1 << 63}, {Client: true, Id: 1<<63 - 1}}

// packet is what stands under way: with its Count.
func packet(from api.Addr, count int, to api.Addr, text string) api.Packet {
	return api.Packet{From: from, Count: count, To: to, Data: []byte(text)}
}

// No list and an empty one are the same.
func same(p, q api.Packet) bool {
	return p.From == q.From && p.Count == q.Count && p.To == q.To && bytes.Equal(p.Data, q.Data)
}

func sameRow(l, m []api.Packet) bool { return slices.EqualFunc(l, m, same) }

// word is a packet in short.
func word(p api.Packet) string {
	return fmt.Sprintf("%v %d to %v %q", p.From, p.Count, p.To, p.Data)
}

func words(l []api.Packet) string {
	var all []string
	for _, p := range l {
		all = append(all, word(p))
	}
	return "[" + strings.Join(all, "; ") + "]"
}

func mustSend(t *testing.T, n way, from, to api.Addr, text string, count int, under bool) {
	t.Helper()
	got, is := n.Send(packet(from, 77, to, text))
	if got != count || is != under {
		t.Fatalf("Send from %v to %v: %d, %v; want %d, %v", from, to, got, is, count, under)
	}
}

// mustSendAll sends so many, with the counts from first on.
func mustSendAll(t *testing.T, n way, from, to api.Addr, text string, first, many int) {
	t.Helper()
	for i := range many {
		mustSend(t, n, from, to, text, first+i, true)
	}
}

func mustDeliver(t *testing.T, n way, want api.Packet) {
	t.Helper()
	p, err := n.Deliver(want.From, want.Count)
	if err != api.OK || !same(p, want) {
		t.Fatalf("Deliver(%v, %d): %s, %v; want %s", want.From, want.Count, word(p), err, word(want))
	}
}

func mustLose(t *testing.T, n way, from api.Addr, count int) {
	t.Helper()
	if err := n.Lose(from, count); err != api.OK {
		t.Fatalf("Lose(%v, %d): %v", from, count, err)
	}
}

func mustDouble(t *testing.T, n way, from api.Addr, count int) {
	t.Helper()
	if err := n.Double(from, count); err != api.OK {
		t.Fatalf("Double(%v, %d): %v", from, count, err)
	}
}

// mustRefuse looks that nothing of a name is under way: all three calls say so, and change nothing.
func mustRefuse(t *testing.T, n way, from api.Addr, count int) {
	t.Helper()
	before := slices.Collect(n.Under())
	p, err := n.Deliver(from, count)
	if err != api.ErrPacket || p.From != (api.Addr{}) || p.Count != 0 || p.To != (api.Addr{}) || len(p.Data) != 0 {
		t.Fatalf("Deliver(%v, %d): %s, %v", from, count, word(p), err)
	}
	if err := n.Lose(from, count); err != api.ErrPacket {
		t.Fatalf("Lose(%v, %d): %v", from, count, err)
	}
	if err := n.Double(from, count); err != api.ErrPacket {
		t.Fatalf("Double(%v, %d): %v", from, count, err)
	}
	mustUnder(t, n, before...)
}

// mustUnder looks what is under way, and that Pair counts the same.
func mustUnder(t *testing.T, n way, want ...api.Packet) {
	t.Helper()
	if got := slices.Collect(n.Under()); !sameRow(got, want) {
		t.Fatalf("under way: %s\nwant: %s", words(got), words(want))
	}
	many := map[[2]api.Addr]int{}
	for _, p := range want {
		many[[2]api.Addr{p.From, p.To}]++
	}
	for _, from := range append(addrs, strange...) {
		for _, to := range append(addrs, strange...) {
			mustPair(t, n, from, to, many[[2]api.Addr{from, to}])
		}
	}
}

func mustPair(t *testing.T, n way, from, to api.Addr, want int) {
	t.Helper()
	if got := n.Pair(from, to); got != want {
		t.Fatalf("Pair(%v, %v): %d, want %d", from, to, got, want)
	}
}

// run is so many packets of one sender to one, with the counts from first on.
func run(from, to api.Addr, text string, first, many int) []api.Packet {
	var row []api.Packet
	for i := range many {
		row = append(row, packet(from, first+i, to, text))
	}
	return row
}
