package tally_test

import (
	"iter"
	"testing"

	"cairn/api"
	"cairn/tally"
)

func TestExample1(t *testing.T) {
	x := tally.New[string]([]int{3, 1, 2}, 2)
	mustTake(t, x, 1, "a", false)
	mustTake(t, x, 1, "b", false)
	mustTake(t, x, 9, "c", false)
	mustTake(t, x, 3, "d", true)
	mustTake(t, x, 2, "e", false)
	mustGet(t, x, said[string]{3, "d"}, said[string]{1, "a"})
	mustMiss(t, x, 2)
}

func TestExample2(t *testing.T) {
	x := tally.New[string](nil, 1)
	for server := range 9 {
		mustTake(t, x, server, "a", false)
		mustEnough(t, x, false)
	}
	y := tally.New[string]([]int{5}, 0)
	mustEnough(t, y, true)
	mustTake(t, y, 5, "a", false)
	mustMiss(t, y, 5)
	mustMiss(t, tally.New[string]([]int{4, 4, 6}, 2), 4, 6)
}

func TestExample3(t *testing.T) {
	mustBest(t, func(a, b int) bool { return a < b }, 5, true, 2, 5, 5, 1)
	mustBest(t, func(a, b int) bool { return a <= b }, 5, true, 2, 5, 5, 1)
	mustBest(t, notHigher, pair{5, 2}, true, pairs([]int{2, 5, 5, 1})...)
}

func TestExample4(t *testing.T) {
	if !tally.Less(stamp(1, 9), stamp(2, 1)) || tally.Less(stamp(2, 1), stamp(2, 1)) {
		t.Error("Less")
	}
	mustMax(t, stamp(0, 0))
	mustMax(t, stamp(2, 3), stamp(2, 1), stamp(2, 3), stamp(1, 9))
}

// machine has the methods that a Machine has, and no others.
type machine interface {
	Begin() []api.Msg
	Take(m api.Msg) []api.Msg
	Tick() []api.Msg
	Done() (api.Result, bool)
	Round() int
}

// These stand here to be compiled: the faces have these types.
var (
	_ func([]int, int) *tally.Tally[string]                  = tally.New[string]
	_ func(*tally.Tally[string], int, string) bool           = (*tally.Tally[string]).Take
	_ func(*tally.Tally[string]) bool                        = (*tally.Tally[string]).Enough
	_ func(*tally.Tally[string]) iter.Seq2[int, string]      = (*tally.Tally[string]).Got
	_ func(*tally.Tally[string]) []int                       = (*tally.Tally[string]).Missing
	_ func(func(a, b string) bool, ...string) (string, bool) = tally.Best[string]
	_ func(a, b api.Stamp) bool                              = tally.Less
	_ func(...api.Stamp) api.Stamp                           = tally.Max
	_ func(machine) tally.Machine                            = func(m machine) tally.Machine { return m }
	_ func(tally.Machine) machine                            = func(m tally.Machine) machine { return m }
)
