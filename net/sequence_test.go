package net_test

import (
	"iter"
	"slices"
	"testing"

	"cairn/api"
	"cairn/net"
)

// four has four packets under way, two of them of one name.
func four(t *testing.T) (*net.Net, []api.Packet) {
	n := net.New()
	mustSend(t, n, a, b, "x", 1, true)
	mustSend(t, n, c, a, "y", 1, true)
	mustDouble(t, n, a, 1)
	mustSend(t, n, b, b, "z", 1, true)
	return n, []api.Packet{packet(a, 1, b, "x"), packet(c, 1, a, "y"), packet(a, 1, b, "x"), packet(b, 1, b, "z")}
}

func mustGo(t *testing.T, seq iter.Seq[api.Packet], want []api.Packet) {
	t.Helper()
	if l := slices.Collect(seq); !sameRow(l, want) {
		t.Fatalf("the sequence goes over %s\nwant %s", words(l), words(want))
	}
}

func TestP5LeftEarly(t *testing.T) {
	n, want := four(t)
	seq := n.Under()
	for stop := range 5 {
		var l []api.Packet
		for p := range seq {
			if len(l) == stop {
				break
			}
			l = append(l, p)
		}
		if !sameRow(l, want[:stop]) {
			t.Fatalf("left behind %d: %s", stop, words(l))
		}
	}
	mustGo(t, seq, want)
	calls := 0
	seq(func(api.Packet) bool { calls++; return calls < 2 })
	if calls != 2 {
		t.Fatalf("one that says no at the second is called %d times", calls)
	}
	mustUnder(t, n, want...)
}

func TestP5AgainAndWithinItself(t *testing.T) {
	n, want := four(t)
	seq := n.Under()
	mustGo(t, seq, want)
	mustGo(t, seq, want)
	var outer []api.Packet
	for p := range seq {
		mustGo(t, seq, want)
		for q := range seq {
			if !same(q, want[0]) {
				t.Fatalf("within itself it begins with %s", word(q))
			}
			break
		}
		outer = append(outer, p)
	}
	if !sameRow(outer, want) {
		t.Fatalf("around itself: %s", words(outer))
	}
}

// Two that are gone over by turns.
func TestP5PulledByTurns(t *testing.T) {
	n, want := four(t)
	seq := n.Under()
	one, stopOne := iter.Pull(seq)
	two, stopTwo := iter.Pull(seq)
	defer stopOne()
	defer stopTwo()
	for i := range want {
		p, there := one()
		q, also := two()
		if !there || !also || !same(p, want[i]) || !same(q, want[i]) {
			t.Fatalf("at place %d: %s, %s", i, word(p), word(q))
		}
		n.Clear()
	}
}

func TestP5AsItWasWhenMade(t *testing.T) {
	n := net.New()
	x, y, z := packet(a, 1, b, "x"), packet(a, 2, b, "y"), packet(c, 1, b, "z")
	var made []iter.Seq[api.Packet]
	var want [][]api.Packet
	look := func(row ...api.Packet) {
		made, want = append(made, n.Under()), append(want, row)
	}
	look()
	mustSend(t, n, a, b, "x", 1, true)
	look(x)
	mustSend(t, n, a, b, "y", 2, true)
	look(x, y)
	mustDouble(t, n, a, 1)
	look(x, y, x)
	mustDeliver(t, n, x)
	look(y, x)
	mustSend(t, n, c, b, "z", 1, true)
	look(y, x, z)
	mustLose(t, n, a, 2)
	look(x, z)
	n.Clear()
	look()
	for range 2 {
		for i, seq := range made {
			mustGo(t, seq, want[i])
		}
	}
	mustUnder(t, n)
}

// Each packet of the sequence is delivered as it comes, others are sent, lost, doubled and cleared: it goes over what it was.
func TestP5PacketsComeAndGoMeanwhile(t *testing.T) {
	n, want := four(t)
	var l []api.Packet
	for p := range n.Under() {
		mustSend(t, n, b, a, "new", len(l)+2, true)
		mustDeliver(t, n, p)
		l = append(l, p)
	}
	if !sameRow(l, want) {
		t.Fatalf("while packets come and go: %s", words(l))
	}
	left := run(b, a, "new", 2, 4)
	mustUnder(t, n, left...)
	l = nil
	for p := range n.Under() {
		mustDouble(t, n, b, 5)
		if len(l) == 1 {
			mustLose(t, n, b, 4)
		}
		if len(l) == 2 {
			n.Clear()
			mustSend(t, n, b, a, "last", 6, true)
			mustUnder(t, n, packet(b, 6, a, "last"))
			mustSend(t, n, b, a, "new", 7, true)
			break
		}
		l = append(l, p)
	}
	if !sameRow(l, left[:2]) {
		t.Fatalf("while packets are lost and doubled: %s", words(l))
	}
	mustUnder(t, n, packet(b, 6, a, "last"), packet(b, 7, a, "new"))
}

// A sequence that sends one packet for each ends.
func TestP5EndsWhileAllAreDoubled(t *testing.T) {
	n, want := four(t)
	places := 0
	for p := range n.Under() {
		mustDouble(t, n, p.From, p.Count)
		places++
	}
	if places != 4 {
		t.Fatalf("it goes over %d", places)
	}
	mustUnder(t, n, append(want, want...)...)
}

func TestP5OfNothing(t *testing.T) {
	n := net.New()
	none := []iter.Seq[api.Packet]{n.Under(), new(net.Net).Under()}
	mustSend(t, n, a, b, "x", 1, true)
	n.Clear()
	none = append(none, n.Under())
	mustSend(t, n, a, b, "x", 2, true)
	for _, seq := range none {
		mustGo(t, seq, nil)
	}
}

func TestP7TwoNetsInTurns(t *testing.T) {
	n, m := net.New(), net.New()
	mustSend(t, n, a, b, "n", 1, true)
	mustSend(t, m, a, b, "m", 1, true)
	mustSend(t, n, a, b, "n", 2, true)
	mustSend(t, m, b, a, "m", 1, true)
	mustDouble(t, n, a, 1)
	mustRefuse(t, m, a, 2)
	mustRefuse(t, n, b, 1)
	mustUnder(t, n, packet(a, 1, b, "n"), packet(a, 2, b, "n"), packet(a, 1, b, "n"))
	mustUnder(t, m, packet(a, 1, b, "m"), packet(b, 1, a, "m"))
	for p := range n.Under() {
		for q := range m.Under() {
			if string(p.Data) != "n" || string(q.Data) != "m" {
				t.Fatalf("%s within %s", word(q), word(p))
			}
		}
		m.Lose(a, 1)
	}
	n.Clear()
	mustUnder(t, m, packet(b, 1, a, "m"))
	mustSendAll(t, m, a, b, "m", 2, 64)
	mustSend(t, m, a, b, "m", 66, false)
	mustSendAll(t, n, a, b, "n", 3, 64)
	m.Clear()
	mustSend(t, n, a, b, "n", 67, false)
	mustUnder(t, n, run(a, b, "n", 3, 64)...)
}

// Two long rows in turns: neither Net knows of the other.
func TestP7LongRowsInTurns(t *testing.T) {
	t.Parallel()
	var plays []play
	for p := range longPlays {
		if plays = append(plays, p); len(plays) == 6 {
			break
		}
	}
	for i := 0; i+1 < len(plays); i += 2 {
		n, m := net.New(), net.New()
		p, q := newPlain(nil), newPlain(nil)
		for k := range plays[i].row {
			x, y := plays[i].row[k], plays[i+1].row[k]
			if s := x.unlikeAnswers(n, p) + y.unlikeAnswers(m, q); s != "" {
				t.Fatalf("call %d: %s", k, s)
			}
			if s := unlike(n, p) + unlike(m, q); s != "" {
				t.Fatalf("behind call %d: %s", k, s)
			}
		}
	}
}

// The same calls in the same order answer the same, whoever was asked meanwhile.
func TestP3Again(t *testing.T) {
	t.Parallel()
	for p := range longPlays {
		n, m := net.New(), net.New()
		for i, x := range p.row[:600] {
			for range i % 3 {
				m.Under()
				m.Pair(x.from, x.to)
			}
			if s := x.unlikeAnswers(m, n); s != "" {
				t.Fatalf("call %d: %s", i, s)
			}
		}
		for range 5 {
			if s := unlike(n, m); s != "" {
				t.Fatal(s)
			}
		}
	}
}
