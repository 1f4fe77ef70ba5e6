package net_test

import (
	"bytes"
	"runtime"
	"slices"
	"testing"
	"weak"

	"cairn/api"
	"cairn/net"
)

// roomy has the bytes of a text, with others in its spare room.
func roomy(text string) []byte {
	room := append([]byte(text), "spare room"...)
	return room[:len(text)]
}

// spoil fills bytes, their spare room too.
func spoil(data []byte) {
	data = data[:cap(data)]
	for i := range data {
		data[i] = '#'
	}
}

func TestP2BytesAreNotKept(t *testing.T) {
	n := net.New()
	data := roomy("plum")
	p := api.Packet{From: a, Count: 9, To: b, Data: data}
	n.Send(p)
	spoil(data)
	mustUnder(t, n, packet(a, 1, b, "plum"))
	mustDouble(t, n, a, 1)
	spoil(data)
	mustUnder(t, n, packet(a, 1, b, "plum"), packet(a, 1, b, "plum"))
	mustDeliver(t, n, packet(a, 1, b, "plum"))
	mustDeliver(t, n, packet(a, 1, b, "plum"))
}

func TestP2BytesAreNotChanged(t *testing.T) {
	n := net.New()
	data := roomy("plum")
	before := slices.Clone(data[:cap(data)])
	for range 70 {
		n.Send(api.Packet{From: a, Count: 9, To: b, Data: data})
	}
	n.Double(a, 1)
	for p := range n.Under() {
		spoil(p.Data)
	}
	for i := range 70 {
		n.Double(a, i)
		p, _ := n.Deliver(a, i)
		spoil(p.Data)
	}
	n.Clear()
	if !bytes.Equal(data[:cap(data)], before) {
		t.Fatalf("what was handed in is %q now, its spare room too", data[:cap(data)])
	}
}

// What is told may be spoilt, its spare room too: nobody else has it.
func TestP2WhatIsToldIsTheCallersOwn(t *testing.T) {
	n := net.New()
	x, y := packet(a, 1, b, "xxx"), packet(c, 1, b, "yyyyy")
	mustSend(t, n, a, b, "xxx", 1, true)
	mustSend(t, n, c, b, "yyyyy", 1, true)
	mustDouble(t, n, a, 1)
	mustDouble(t, n, a, 1)
	earlier := n.Under()
	for p := range n.Under() {
		spoil(p.Data)
	}
	mustUnder(t, n, x, y, x, x)
	told := slices.Collect(earlier)
	spoil(told[0].Data)
	if !sameRow(told[1:], []api.Packet{y, x, x}) {
		t.Fatalf("packets of one sequence share memory: %s", words(told))
	}
	p, _ := n.Deliver(a, 1)
	spoil(p.Data)
	mustUnder(t, n, y, x, x)
	if l := slices.Collect(earlier); !sameRow(l, []api.Packet{x, y, x, x}) {
		t.Fatalf("a sequence that was made earlier tells %s", words(l))
	}
	q, _ := n.Deliver(a, 1)
	again := slices.Collect(n.Under())
	last, _ := n.Deliver(a, 1)
	spoil(last.Data)
	if !same(q, x) || !sameRow(again, []api.Packet{y, x}) {
		t.Fatalf("what was told earlier is %s, %s now", word(q), words(again))
	}
	spoil(q.Data)
	spoil(again[1].Data)
	if l := slices.Collect(earlier); !sameRow(l, []api.Packet{x, y, x, x}) {
		t.Fatalf("a sequence that was made earlier tells %s", words(l))
	}
	mustUnder(t, n, y)
}

// The same of one sequence that is gone over twice, and of what is handed in again as it was told.
func TestP2ToldAndHandedInAgain(t *testing.T) {
	n := net.New()
	mustSend(t, n, a, b, "xxx", 1, true)
	seq := n.Under()
	one, two := slices.Collect(seq), slices.Collect(seq)
	spoil(one[0].Data)
	if !same(two[0], packet(a, 1, b, "xxx")) {
		t.Fatalf("two ranges over one sequence share memory: %s", word(two[0]))
	}
	n.Send(two[0])
	spoil(two[0].Data)
	p, _ := n.Deliver(a, 1)
	n.Send(p)
	spoil(p.Data)
	mustUnder(t, n, packet(a, 2, b, "xxx"), packet(a, 3, b, "xxx"))
}

// Within a sequence: what was told may be spoilt and appended to while it goes on.
func TestP2SpoiltWhileItGoesOn(t *testing.T) {
	n := net.New()
	mustSendAll(t, n, a, b, "abc", 1, 5)
	mustDouble(t, n, a, 5)
	places := 0
	for p := range n.Under() {
		if string(p.Data) != "abc" {
			t.Fatalf("at place %d: %s", places, word(p))
		}
		places++
		spoil(append(p.Data, "defghijklmnop"...))
		spoil(p.Data)
	}
	mustUnder(t, n, append(run(a, b, "abc", 1, 5), packet(a, 5, b, "abc"))...)
}

type heavy [1 << 16]byte

// sendHeavy sends the first bytes of an array that nobody else has.
func sendHeavy(n *net.Net, to api.Addr, many int) weak.Pointer[heavy] {
	h := new(heavy)
	n.Send(api.Packet{From: a, To: to, Data: h[:many]})
	return weak.Make(h)
}

// Of what is handed in nothing is kept: neither bytes nor, of no bytes, the room behind them.
func TestP2NothingHandedInIsKept(t *testing.T) {
	n := net.New()
	some := []weak.Pointer[heavy]{sendHeavy(n, b, 1<<16), sendHeavy(n, b, 7), sendHeavy(n, b, 0)}
	for range 70 {
		some = append(some, sendHeavy(n, c, 100))
	}
	n.Double(a, 1)
	seq := n.Under()
	runtime.GC()
	runtime.GC()
	for i, p := range some {
		if p.Value() != nil {
			t.Errorf("the bytes of packet %d are kept", i+1)
		}
	}
	if l := slices.Collect(seq); len(l) != 68 || len(l[0].Data) != 1<<16 || len(l[1].Data) != 7 || len(l[2].Data) != 0 {
		t.Errorf("%d are under way", len(l))
	}
	runtime.KeepAlive(n)
}
