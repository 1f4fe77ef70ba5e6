package mend_test

import (
	"math"
	"strings"
	"testing"

	"cairn/api"
	"cairn/mend"
)

func TestP1201Block(t *testing.T) {
	want := api.Msg{Kind: api.MAsk, From: server(5), To: server(2), Key: block}
	for _, h := range []mend.Held{{}, holding(stamp(3, 1), "abc"), holding(stamp(0, 0), "\x00\x00\x00"), holding(stamp(api.MaxNum, 255), "abc")} {
		mustAsk(t, block, h, want)
	}
}

// What is held of other keys' kinds says nothing of a block.
func TestP1201BlockLooksAtNoRow(t *testing.T) {
	h := held(3, "DD")
	h.Block = api.Block{Stamp: stamp(3, 1), Data: []byte("abc")}
	mustAsk(t, block, h, api.Msg{Kind: api.MAsk, From: server(5), To: server(2), Key: block})
	mustAsk(t, dir, h, asks(6))
}

func TestP1201Edge(t *testing.T) {
	for _, x := range []struct {
		upto int
		row  string
		edge int
	}{
		{0, "", 0}, {0, "D", 1}, {0, "DD", 2}, {0, "DDD", 3}, {0, "a", 0}, {0, "p", 0},
		{0, ".D", 0}, {0, "aD", 0}, {0, "pD", 0}, {0, "..D", 0}, {0, "D.D", 1}, {0, "DaD", 1}, {0, "DpD", 1}, {0, "DD.DD", 2}, {0, "DDa", 2}, {0, "DDap.", 2}, {0, "DDpD", 2},
		{1, "", 1}, {1, "D", 2}, {1, "aD", 1}, {1, ".D", 1}, {7, "", 7}, {7, "DDD", 10}, {7, "DD.DD", 9}, {7, ".....D", 7}, {7, "ap", 7},
		{0, strings.Repeat("D", 200), 200}, {50, strings.Repeat("D", 63) + "a" + "D", 113},
		{last, "", last}, {last - 1, "", last - 1}, {last - 1, "D", last}, {last - 1, "a", last - 1}, {last - 1, "p", last - 1},
		{last - 2, "DD", last}, {last - 2, ".D", last - 2}, {last - 2, "aD", last - 2}, {last - 2, "D", last - 1}, {last - 70, strings.Repeat("D", 70), last},
	} {
		mustAsk(t, dir, held(x.upto, x.row), asks(x.edge+1))
	}
}

// A row that begins or goes on far behind what is trimmed.
func TestP1201FarBehind(t *testing.T) {
	far := mend.Place{N: last, Instance: decided(last)}
	mustAsk(t, dir, mend.Held{Row: []mend.Place{far}}, asks(1))
	h := held(4, "DD")
	h.Row = append(h.Row, far)
	mustAsk(t, dir, h, asks(7))
	mustAsk(t, dir, mend.Held{Bucket: trimmed(4), Row: []mend.Place{{N: last - 1, Instance: decided(last - 1)}, far}}, asks(5))
}

// Whose numbers and keys they are is not looked at.
func TestP1201AnyNumbersAndKeys(t *testing.T) {
	numbers := []int{math.MinInt, -1, 0, 1, 255, 256, math.MaxInt}
	for _, from := range numbers {
		for _, to := range numbers {
			for _, k := range []api.Key{block, dir, {Kind: api.KBlock}, {Kind: api.KBucket}, {Kind: api.KBlock, A: -1, B: from, C: to}, {Kind: api.KBucket, A: from, B: to, C: -7}} {
				want := api.Msg{Kind: api.MAsk, From: server(from), To: server(to), Key: k}
				if k.Kind == api.KBucket {
					want.Stamp.N = 3
				}
				if got := mend.Ask(from, to, k, held(1, "D.D")); !sameMsg(got, want) {
					t.Fatalf("Ask(%d, %d, %+v, ..): %+v, not %+v", from, to, k, got, want)
				}
			}
		}
	}
}

func TestP1201OtherKinds(t *testing.T) {
	for _, kind := range []int{math.MinInt, -1, 0, api.KInstance, 4, 5, math.MaxInt} {
		for _, k := range []api.Key{{Kind: kind}, {Kind: kind, A: 3}, {Kind: kind, A: 3, B: 1}, {Kind: kind, A: 7, B: 2, C: 5}} {
			for _, h := range []mend.Held{{}, held(2, "DD"), holding(stamp(3, 1), "abc")} {
				mustAsk(t, k, h, none)
			}
		}
	}
}
