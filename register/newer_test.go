package register_test

import (
	"bytes"
	"math"
	"testing"

	"cairn/api"
	"cairn/register"
)

func mustHold(t *testing.T, held api.Block, s api.Stamp, data []byte, want api.Block, other bool) {
	t.Helper()
	b, is := register.Newer(held, s, data)
	if is != other || b.Stamp != want.Stamp || !bytes.Equal(b.Data, want.Data) {
		t.Fatalf("Newer(%v, %v, %q): %v, %v, not %v, %v", held, s, data, b, is, want, other)
	}
}

// mustTakeIt and mustLeaveIt hold a Put against a block.
func mustTakeIt(t *testing.T, held api.Block, s api.Stamp, data string) {
	t.Helper()
	mustHold(t, held, s, []byte(data), api.Block{Stamp: s, Data: []byte(data)}, true)
}

func mustLeaveIt(t *testing.T, held api.Block, s api.Stamp, data string) {
	t.Helper()
	mustHold(t, held, s, []byte(data), held, false)
}

func TestP701Above(t *testing.T) {
	held := api.Block{Stamp: stamp(2, 5), Data: []byte("ab")}
	for _, s := range []api.Stamp{stamp(2, 6), stamp(3, 1), stamp(3, 5), stamp(3, 0), stamp(api.MaxNum, 255)} {
		mustTakeIt(t, held, s, "xyz")
		mustTakeIt(t, held, s, "ab")
	}
}

func TestP701AlikeAndBelow(t *testing.T) {
	held := api.Block{Stamp: stamp(2, 5), Data: []byte("ab")}
	for _, s := range []api.Stamp{stamp(2, 5), stamp(2, 4), stamp(1, 9), stamp(1, 5), stamp(2, 0), stamp(0, 255), stamp(0, 0), stamp(-3, 9), stamp(2, -5)} {
		mustLeaveIt(t, held, s, "xyz")
		mustLeaveIt(t, held, s, "ab")
		mustLeaveIt(t, held, s, "")
	}
}

// A server that holds nothing yet takes any stamp above {0, 0}.
func TestP701NothingHeld(t *testing.T) {
	none := api.Block{}
	mustTakeIt(t, none, stamp(1, 1), "xy")
	mustTakeIt(t, none, stamp(0, 1), "xy")
	mustTakeIt(t, none, stamp(1, 0), "xy")
	mustTakeIt(t, none, stamp(1, -1), "xy")
	mustLeaveIt(t, none, stamp(0, 0), "xy")
	mustLeaveIt(t, none, stamp(0, -1), "xy")
	mustLeaveIt(t, none, stamp(-1, 7), "xy")
}

func TestP701NoStampAndNoData(t *testing.T) {
	none, held := api.Block{}, api.Block{Stamp: stamp(2, 5), Data: []byte("ab")}
	for _, data := range [][]byte{nil, {}} {
		mustHold(t, none, stamp(0, 0), data, none, false)
		mustHold(t, held, stamp(0, 0), data, held, false)
		mustHold(t, none, stamp(1, 1), data, api.Block{Stamp: stamp(1, 1)}, true)
		mustHold(t, held, stamp(2, 6), data, api.Block{Stamp: stamp(2, 6)}, true)
		mustHold(t, api.Block{Stamp: stamp(2, 5), Data: data}, stamp(2, 5), []byte("x"), api.Block{Stamp: stamp(2, 5)}, false)
		mustHold(t, api.Block{Stamp: stamp(-1, 5)}, stamp(0, 0), data, api.Block{}, true)
	}
}

// Whatever stamp and data: the order of stamps alone counts.
func TestP701WhateverMayNotBe(t *testing.T) {
	long := string(bytes.Repeat([]byte("q"), api.MaxBlock+1))
	held := api.Block{Stamp: stamp(api.MaxNum, 255), Data: []byte("ab")}
	mustTakeIt(t, held, stamp(api.MaxNum, 256), "x")
	mustTakeIt(t, held, stamp(api.MaxNum+1, 1), long)
	mustTakeIt(t, held, stamp(math.MaxInt, math.MinInt), long)
	mustLeaveIt(t, held, stamp(math.MinInt, math.MaxInt), long)
	low := api.Block{Stamp: stamp(math.MinInt, math.MinInt), Data: []byte(long)}
	mustLeaveIt(t, low, stamp(math.MinInt, math.MinInt), "x")
	mustTakeIt(t, low, stamp(math.MinInt, math.MinInt+1), "x")
	mustTakeIt(t, low, stamp(-1, 0), "x")
	mustTakeIt(t, api.Block{Stamp: stamp(0, -1)}, stamp(0, 0), "x")
}

// Each pair of small stamps, by the order that DOC.md's W7 says.
func TestP701EveryPair(t *testing.T) {
	for a := range 49 {
		for b := range 49 {
			held := api.Block{Stamp: stamp(a/7-3, a%7-3), Data: []byte("held")}
			s := stamp(b/7-3, b%7-3)
			if a < b {
				mustTakeIt(t, held, s, "put")
			} else {
				mustLeaveIt(t, held, s, "put")
			}
		}
	}
}

// Puts in any order leave the one with the greatest stamp.
func TestP701LastOfMany(t *testing.T) {
	for turn := range 24 {
		left := []int{1, 2, 3, 4}
		var held api.Block
		for n := turn; len(left) > 0; {
			i := n % len(left)
			n /= len(left)
			held, _ = register.Newer(held, stamp(left[i], 1), []byte{byte(left[i])})
			left = append(left[:i], left[i+1:]...)
		}
		if held.Stamp != stamp(4, 1) || !bytes.Equal(held.Data, []byte{4}) {
			t.Fatalf("turn %d: %v", turn, held)
		}
	}
}
