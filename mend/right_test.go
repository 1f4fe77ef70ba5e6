package mend_test

import (
	"math/rand"
	"strings"
	"testing"

	"cairn/api"
	"cairn/mend"
	"cairn/msg"
)

var config = api.Config{Servers: []int{1, 2, 3, 4, 5}, F: 1, Points: 1, Buckets: 4, Block: 3, Room: 2}

// mustBeRight holds what a server holds against chapter 5: the promise is of such alone.
func mustBeRight(t *testing.T, h mend.Held) {
	if err := msg.Bucket(h.Bucket, config); err != api.OK {
		t.Fatalf("%+v: %v", h.Bucket, err)
	}
	for _, p := range h.Row {
		if _, err := msg.PackInstance(p.Instance, config); err != api.OK {
			t.Fatalf("%+v: %v", p.Instance, err)
		}
	}
}

func mustBeMsg(t *testing.T, m api.Msg) {
	if err := msg.Valid(m, config); err != api.OK {
		t.Helper()
		t.Fatalf("%v: no message: %+v", err, m)
	}
}

// mustAnswer looks at b's answer to a question that may be, and at what a asks next.
func mustAnswer(t *testing.T, ask api.Msg, a, b mend.Held) {
	mustBeMsg(t, ask)
	have := mend.Have(ask, b)
	mustBeMsg(t, have)
	if _, next, more := mend.Take(have, a); more {
		mustBeMsg(t, next)
	}
}

func TestP1207Blocks(t *testing.T) {
	for _, b := range []mend.Held{{}, holding(stamp(0, 0), "\x00\x00\x00"), holding(stamp(1, 1), "abc"), holding(stamp(api.MaxNum, 255), "\x00\x00\x00")} {
		for _, a := range []mend.Held{{}, holding(stamp(1, 1), "abc"), holding(stamp(7, 7), "xyz")} {
			mustAnswer(t, mend.Ask(5, 2, block, a), a, b)
			list, _, _ := mend.Take(mend.Have(mend.Ask(5, 2, block, a), b), a)
			for _, c := range list {
				if _, err := msg.PackBlock(c.Block, config); err != api.OK {
					t.Fatalf("%v: no block: %+v", err, c.Block)
				}
			}
		}
	}
}

// Each question that may be, of each that may hold anything, at the beginning and at the end of all instances.
func TestP1207EveryShortRow(t *testing.T) {
	t.Parallel()
	for _, ends := range [][2]int{{0, 3}, {last - 4, last}} {
		a := held(ends[0], "D")
		for _, b := range helds(ends[0], ends[1], 4) {
			mustBeRight(t, b)
			for n := max(1, ends[0]-2); n <= min(ends[1]+9, last+1); n++ {
				mustAnswer(t, asks(n), a, b)
			}
			mustAnswer(t, mend.Ask(5, 2, dir, b), b, a)
		}
	}
}

func TestP1207FullMessages(t *testing.T) {
	for _, many := range []int{63, 64, 65, 127, 128, 129, 200} {
		for _, upto := range []int{0, 1, 77, last - many} {
			for _, row := range []string{strings.Repeat("D", many), strings.Repeat("D.", many/2), strings.Repeat(".", many-1) + "D"} {
				b := held(upto, row)
				mustBeRight(t, b)
				for n := max(1, upto-1); n <= min(upto+many+2, last+1); n++ {
					mustAnswer(t, asks(n), mend.Held{}, b)
				}
			}
		}
	}
}

// All messages of mends between two that hold what chance has let them; the Changes are right too.
func TestP1207Mends(t *testing.T) {
	t.Parallel()
	r := rand.New(rand.NewSource(11))
	for range 400 {
		a, b := aPair(r)
		mustBeRight(t, a)
		mustBeRight(t, b)
		ask, more := mend.Ask(5, 2, dir, a), true
		for more {
			mustAnswer(t, ask, a, b)
			var list []mend.Change
			list, ask, more = mend.Take(mend.Have(ask, b), a)
			a = lay(a, list)
			mustBeRight(t, a)
		}
	}
}
