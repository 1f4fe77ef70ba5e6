package net_test

import (
	"slices"
	"strings"
	"testing"

	"cairn/api"
	"cairn/net"
)

func TestP1601NewHasNothing(t *testing.T) {
	n := net.New()
	mustUnder(t, n)
	for _, from := range append(addrs, strange...) {
		for count := -2; count < 4; count++ {
			mustRefuse(t, n, from, count)
		}
	}
	for _, from := range append(addrs, strange...) {
		mustSend(t, n, from, b, "x", 1, true)
	}
}

func TestP1601NewIsNobodyElses(t *testing.T) {
	n, m := net.New(), net.New()
	if n == m {
		t.Fatal("two calls of New answer one Net")
	}
	mustSend(t, n, a, b, "x", 1, true)
	mustUnder(t, m)
	mustUnder(t, net.New())
	mustSend(t, m, a, b, "y", 1, true)
	mustUnder(t, n, packet(a, 1, b, "x"))
}

// The Count that is handed in is not looked at: neither told, nor kept, nor counted on from.
func TestP1602HandedCount(t *testing.T) {
	n := net.New()
	var want []api.Packet
	for i, count := range []int{0, 1, 1, -1, 7, 2, 1 << 62, -1 << 63, 1<<63 - 1, 3} {
		if got, under := n.Send(packet(a, count, b, "x")); got != i+1 || !under {
			t.Fatalf("Send with the Count %d: %d, %v; want %d", count, got, under, i+1)
		}
		want = append(want, packet(a, i+1, b, "x"))
		mustUnder(t, n, want...)
	}
	mustRefuse(t, n, a, 1<<62)
	mustRefuse(t, n, a, -1)
}

func TestP1602WhoeverSendsToWhomever(t *testing.T) {
	n := net.New()
	var want []api.Packet
	all := append(addrs, strange...)
	for i, to := range all {
		for _, from := range all {
			mustSend(t, n, from, to, "x", i+1, true)
			want = append(want, packet(from, i+1, to, "x"))
		}
	}
	mustUnder(t, n, want...)
	for _, p := range want {
		mustDeliver(t, n, p)
		mustRefuse(t, n, p.From, p.Count)
	}
	mustUnder(t, n)
}

func TestP1602AnyBytes(t *testing.T) {
	n := net.New()
	var want []api.Packet
	for i, text := range []string{"", "\x00", "a\x00b", "\xff\xfe", strings.Repeat("long", api.MaxBytes), "", "x"} {
		mustSend(t, n, a, b, text, i+1, true)
		want = append(want, packet(a, i+1, b, text))
	}
	for _, data := range [][]byte{nil, {}} {
		if count, under := n.Send(api.Packet{From: a, To: b, Data: data}); count != len(want)+1 || !under {
			t.Fatalf("Send of no bytes: %d, %v", count, under)
		}
		want = append(want, packet(a, len(want)+1, b, ""))
	}
	mustUnder(t, n, want...)
	for _, p := range want {
		mustDouble(t, n, p.From, p.Count)
		mustDeliver(t, n, p)
	}
	mustUnder(t, n, want...)
}

// Around the bound: of a pair, of the pair turned round, of an address to itself, of others that share one end of it or an Id.
func TestP1602TheBoundOfEachPair(t *testing.T) {
	n := net.New()
	counts := map[api.Addr]int{}
	var want []api.Packet
	for _, w := range [][2]api.Addr{{a, b}, {b, a}, {a, a}, {c, b}, {b, c}, {a, c}, {c, a}, {c, c}} {
		from, to := w[0], w[1]
		for i := range 63 {
			counts[from]++
			mustSend(t, n, from, to, "q", counts[from], true)
			want = append(want, packet(from, counts[from], to, "q"))
			mustPair(t, n, from, to, i+1)
		}
		counts[from]++
		mustSend(t, n, from, to, "", counts[from], true)
		want = append(want, packet(from, counts[from], to, ""))
		mustPair(t, n, from, to, 64)
		for range 3 {
			counts[from]++
			mustSend(t, n, from, to, "q", counts[from], false)
			mustRefuse(t, n, from, counts[from])
		}
	}
	mustUnder(t, n, want...)
}

func TestP1602RoomBehindDeliverLoseClear(t *testing.T) {
	for i, goes := range []func(n way){
		func(n way) { mustDeliver(t, n, packet(a, 1, b, "q")) },
		func(n way) { mustDeliver(t, n, packet(a, 40, b, "q")) },
		func(n way) { mustDeliver(t, n, packet(a, 64, b, "q")) },
		func(n way) { mustLose(t, n, a, 1) },
		func(n way) { mustLose(t, n, a, 40) },
		func(n way) { mustLose(t, n, a, 64) },
	} {
		n := net.New()
		mustSendAll(t, n, a, b, "q", 1, 64)
		mustSend(t, n, a, b, "q", 65, false)
		goes(n)
		mustPair(t, n, a, b, 63)
		mustSend(t, n, a, b, "new", 66, true)
		mustSend(t, n, a, b, "q", 67, false)
		row := slices.Collect(n.Under())
		if len(row) != 64 || !same(row[63], packet(a, 66, b, "new")) {
			t.Fatalf("way %d: %s", i, words(row))
		}
		n.Clear()
		mustSendAll(t, n, a, b, "q", 68, 64)
		mustSend(t, n, a, b, "q", 132, false)
	}
}

// A packet that was lost at once is no packet any more when there is room again.
func TestP1602LostAtOnceStaysLost(t *testing.T) {
	n := net.New()
	mustSendAll(t, n, a, b, "q", 1, 64)
	for i := range 100 {
		mustSend(t, n, a, b, "late", 65+i, false)
	}
	for i := range 64 {
		mustLose(t, n, a, i+1)
	}
	mustUnder(t, n)
	for i := range 100 {
		mustRefuse(t, n, a, 65+i)
	}
	mustSend(t, n, a, b, "x", 165, true)
	mustUnder(t, n, packet(a, 165, b, "x"))
}

func TestP1603DeliverInAnyOrder(t *testing.T) {
	x, y, z := packet(a, 1, b, "x"), packet(c, 1, b, "y"), packet(a, 2, c, "z")
	for _, order := range [][]api.Packet{{x, y, z}, {x, z, y}, {y, x, z}, {y, z, x}, {z, x, y}, {z, y, x}} {
		n := net.New()
		left := []api.Packet{x, y, z}
		for _, p := range left {
			mustSend(t, n, p.From, p.To, string(p.Data), p.Count, true)
		}
		for _, p := range order {
			mustDeliver(t, n, p)
			left = without(left, p)
			mustUnder(t, n, left...)
			mustRefuse(t, n, p.From, p.Count)
		}
	}
}

// without has all others, in their order.
func without(row []api.Packet, p api.Packet) []api.Packet {
	var left []api.Packet
	for _, q := range row {
		if !same(p, q) {
			left = append(left, q)
		}
	}
	return left
}

func TestP1604LoseInAnyOrder(t *testing.T) {
	x, y, z := packet(a, 1, b, "x"), packet(c, 1, b, "y"), packet(a, 2, c, "z")
	for _, order := range [][]api.Packet{{x, y, z}, {x, z, y}, {y, x, z}, {y, z, x}, {z, x, y}, {z, y, x}} {
		n := net.New()
		left := []api.Packet{x, y, z}
		for _, p := range left {
			mustSend(t, n, p.From, p.To, string(p.Data), p.Count, true)
		}
		for _, p := range order {
			mustLose(t, n, p.From, p.Count)
			left = without(left, p)
			mustUnder(t, n, left...)
			mustRefuse(t, n, p.From, p.Count)
		}
	}
}

// The first of a name goes, in the order in which they came under way, also behind others of its name that came and went.
func TestP1603FirstOfItsName(t *testing.T) {
	for _, lost := range []bool{false, true} {
		n := net.New()
		x, y, z := packet(a, 1, b, "x"), packet(b, 1, b, "y"), packet(c, 1, b, "z")
		take := func() {
			t.Helper()
			if lost {
				mustLose(t, n, a, 1)
			} else {
				mustDeliver(t, n, x)
			}
		}
		mustSend(t, n, a, b, "x", 1, true)
		mustSend(t, n, b, b, "y", 1, true)
		mustDouble(t, n, a, 1)
		mustSend(t, n, c, b, "z", 1, true)
		mustDouble(t, n, a, 1)
		mustUnder(t, n, x, y, x, z, x)
		take()
		mustUnder(t, n, y, x, z, x)
		take()
		mustUnder(t, n, y, z, x)
		mustDouble(t, n, b, 1)
		mustDouble(t, n, a, 1)
		mustUnder(t, n, y, z, x, y, x)
		take()
		mustUnder(t, n, y, z, y, x)
		take()
		mustUnder(t, n, y, z, y)
		mustRefuse(t, n, a, 1)
	}
}

// A packet that is doubled ahead of each delivery is delivered as often as one likes.
func TestP1605DoubledAgainAndAgain(t *testing.T) {
	n := net.New()
	x, y := packet(a, 1, b, "x"), packet(a, 2, b, "y")
	mustSend(t, n, a, b, "x", 1, true)
	mustSend(t, n, a, b, "y", 2, true)
	for range 1000 {
		mustDouble(t, n, a, 1)
		mustDeliver(t, n, x)
		mustUnder(t, n, y, x)
		mustDouble(t, n, a, 2)
		mustLose(t, n, a, 2)
		mustUnder(t, n, x, y)
	}
	mustDeliver(t, n, x)
	mustDeliver(t, n, y)
	mustRefuse(t, n, a, 1)
	mustRefuse(t, n, a, 2)
	mustSend(t, n, a, b, "z", 3, true)
}

func TestP1605UpToTheBound(t *testing.T) {
	n := net.New()
	mustSend(t, n, a, b, "x", 1, true)
	mustSend(t, n, b, a, "y", 1, true)
	want := []api.Packet{packet(a, 1, b, "x"), packet(b, 1, a, "y")}
	for range 63 {
		mustDouble(t, n, a, 1)
		want = append(want, packet(a, 1, b, "x"))
		mustUnder(t, n, want...)
	}
	for range 3 {
		mustDouble(t, n, a, 1)
		mustUnder(t, n, want...)
	}
	mustSend(t, n, a, b, "x", 2, false)
	mustDouble(t, n, b, 1)
	want = append(want, packet(b, 1, a, "y"))
	mustUnder(t, n, want...)
	mustDeliver(t, n, want[0])
	mustDouble(t, n, a, 1)
	want = append(want[1:], packet(a, 1, b, "x"))
	mustUnder(t, n, want...)
	mustLose(t, n, a, 1)
	mustSend(t, n, a, b, "z", 3, true)
	want = append(append(want[:0:0], want[0]), append(want[2:], packet(a, 3, b, "z"))...)
	mustUnder(t, n, want...)
}

// At a full way each of its packets may be doubled, and those of others come under way.
func TestP1605AtAFullWay(t *testing.T) {
	n := net.New()
	mustSendAll(t, n, a, b, "q", 1, 64)
	want := run(a, b, "q", 1, 64)
	for i := range 64 {
		mustDouble(t, n, a, i+1)
	}
	mustUnder(t, n, want...)
	mustRefuse(t, n, a, 65)
	mustSend(t, n, a, b, "q", 65, false)
	mustRefuse(t, n, a, 65)
	mustSend(t, n, a, a, "own", 66, true)
	mustDouble(t, n, a, 66)
	mustUnder(t, n, append(want, packet(a, 66, a, "own"), packet(a, 66, a, "own"))...)
}

func TestP1606Pair(t *testing.T) {
	n := net.New()
	mustSend(t, n, a, b, "x", 1, true)
	mustSend(t, n, a, b, "x", 2, true)
	mustSend(t, n, b, a, "x", 1, true)
	mustSend(t, n, c, b, "x", 1, true)
	mustSend(t, n, a, a, "x", 3, true)
	mustDouble(t, n, a, 2)
	mustPair(t, n, a, b, 3)
	mustPair(t, n, b, a, 1)
	mustPair(t, n, c, b, 1)
	mustPair(t, n, a, a, 1)
	mustPair(t, n, a, c, 0)
	mustPair(t, n, b, b, 0)
	mustPair(t, n, b, c, 0)
	mustDeliver(t, n, packet(a, 2, b, "x"))
	mustPair(t, n, a, b, 2)
	mustLose(t, n, a, 2)
	mustLose(t, n, a, 1)
	mustPair(t, n, a, b, 0)
	mustPair(t, n, b, a, 1)
	for range 3 {
		mustRefuse(t, n, a, 1)
		mustPair(t, n, a, b, 0)
	}
}

func TestP1606Clear(t *testing.T) {
	n := net.New()
	n.Clear()
	mustUnder(t, n)
	mustSend(t, n, a, b, "x", 1, true)
	mustSend(t, n, c, a, "y", 1, true)
	mustSend(t, n, a, a, "z", 2, true)
	mustDouble(t, n, a, 1)
	for range 2 {
		n.Clear()
		mustUnder(t, n)
		mustRefuse(t, n, a, 1)
		mustRefuse(t, n, a, 2)
		mustRefuse(t, n, c, 1)
	}
	mustSend(t, n, b, a, "first", 1, true)
	mustSend(t, n, a, b, "x", 3, true)
	mustSend(t, n, c, a, "y", 2, true)
	mustUnder(t, n, packet(b, 1, a, "first"), packet(a, 3, b, "x"), packet(c, 2, a, "y"))
	mustRefuse(t, n, a, 1)
}

// Whatever becomes of the packets, whatever others send.
func TestP1607CountsOfOneSender(t *testing.T) {
	n := net.New()
	count := 0
	sends := func(to api.Addr, under bool) {
		t.Helper()
		count++
		mustSend(t, n, a, to, "x", count, under)
	}
	sends(b, true)
	mustDeliver(t, n, packet(a, 1, b, "x"))
	sends(b, true)
	mustLose(t, n, a, 2)
	sends(b, true)
	for i := range 40 {
		mustSend(t, n, c, b, "other", i+1, true)
		mustSend(t, n, b, a, "other", i+1, true)
		sends(c, true)
		mustDouble(t, n, a, count)
		mustDeliver(t, n, packet(a, count, c, "x"))
		mustDeliver(t, n, packet(a, count, c, "x"))
		mustRefuse(t, n, a, count)
		mustRefuse(t, n, a, count+1)
	}
	n.Clear()
	sends(b, true)
	n.Clear()
	n.Clear()
	for range 64 {
		sends(a, true)
	}
	for range 10000 {
		sends(a, false)
	}
	sends(b, true)
	for i := range 64 {
		mustLose(t, n, a, count-10064+i)
	}
	mustUnder(t, n, packet(a, count, b, "x"))
	mustLose(t, n, a, count)
	mustUnder(t, n)
	sends(b, true)
	mustSend(t, n, c, b, "other", 41, true)
	mustSend(t, n, api.Addr{Client: true, Id: 2}, b, "other", 1, true)
}

// mustFollow looks that what is under way is as 'What follows' says.
func mustFollow(t *testing.T, n way) {
	t.Helper()
	type name struct {
		from  api.Addr
		count int
	}
	named, pairs := map[name]api.Packet{}, map[[2]api.Addr]int{}
	for p := range n.Under() {
		k, w := name{p.From, p.Count}, [2]api.Addr{p.From, p.To}
		if q, there := named[k]; there && !same(p, q) {
			t.Fatalf("P1608: %s and %s", word(p), word(q))
		}
		named[k] = p
		if pairs[w]++; pairs[w] > 64 {
			t.Fatalf("P1608: more than 64 from %v to %v", w[0], w[1])
		}
	}
}

// In long rows each sender's counts are 1, 2, 3 and so on, no pair has more than 64, and one name is one packet.
func TestP1608LongRows(t *testing.T) {
	t.Parallel()
	for p := range longPlays {
		n := net.New()
		counts := map[api.Addr]int{}
		for i, x := range p.row {
			if x.kind == sends {
				counts[x.from]++
				if count, _ := n.Send(packet(x.from, x.count, x.to, x.text)); count != counts[x.from] {
					t.Fatalf("P1607: call %d: %d, want %d", i, count, counts[x.from])
				}
			} else {
				x.do(n)
			}
			mustFollow(t, n)
		}
	}
}

// Very many: each call finds its packet among them.
func TestP1608ManyPairs(t *testing.T) {
	n := net.New()
	const many = 120
	for i := range many {
		for k := range many {
			mustSend(t, n, api.Addr{Id: i}, api.Addr{Client: true, Id: k}, "x", 2*k+1, true)
			mustSend(t, n, api.Addr{Id: i}, api.Addr{Client: true, Id: k}, "y", 2*k+2, true)
		}
	}
	for i := range many {
		for k := range many {
			from, to := api.Addr{Id: i}, api.Addr{Client: true, Id: k}
			mustPair(t, n, from, to, 2)
			mustDeliver(t, n, packet(from, 2*k+2, to, "y"))
			mustDouble(t, n, from, 2*k+1)
			mustLose(t, n, from, 2*k+1)
			mustPair(t, n, from, to, 1)
		}
	}
	i := 0
	for p := range n.Under() {
		if want := packet(api.Addr{Id: i / many}, 2*(i%many)+1, api.Addr{Client: true, Id: i % many}, "x"); !same(p, want) {
			t.Fatalf("at place %d: %s, want %s", i, word(p), word(want))
		}
		i++
	}
	if i != many*many {
		t.Fatalf("%d under way", i)
	}
}
