package net_test

import (
	"testing"

	"cairn/net"
)

// The chapter's four examples, one behind the other, as they stand there.
func TestP1601Examples(t *testing.T) {
	n := net.New()
	x, y, z := packet(a, 1, b, "x"), packet(b, 1, a, "y"), packet(a, 2, b, "z")
	mustSend(t, n, a, b, "x", 1, true)
	mustSend(t, n, b, a, "y", 1, true)
	mustSend(t, n, a, b, "z", 2, true)
	mustUnder(t, n, x, y, z)
	mustPair(t, n, a, b, 2)
	mustPair(t, n, b, a, 1)

	mustDouble(t, n, a, 1)
	mustUnder(t, n, x, y, z, x)
	mustDeliver(t, n, x)
	mustUnder(t, n, y, z, x)
	mustDeliver(t, n, x)
	mustRefuse(t, n, a, 1)

	mustLose(t, n, a, 2)
	mustRefuse(t, n, a, 2)
	mustRefuse(t, n, a, 9)
	n.Clear()
	mustSend(t, n, a, b, "", 3, true)
	mustUnder(t, n, packet(a, 3, b, ""))
}

func TestP1602ExampleOfAFullWay(t *testing.T) {
	n := net.New()
	mustSendAll(t, n, a, b, "q", 1, 64)
	mustSend(t, n, a, b, "q", 65, false)
	mustSend(t, n, a, a, "q", 66, true)
	mustDouble(t, n, a, 30)
	mustUnder(t, n, append(run(a, b, "q", 1, 64), packet(a, 66, a, "q"))...)
}
