package register_test

import (
	"testing"

	"cairn/api"
	"cairn/register"
	"cairn/tally"
)

func TestExample1(t *testing.T) {
	m := register.Write(7, 3, api.Key{Kind: api.KBlock, A: 7, B: 1}, []int{4, 2, 9}, 5, []byte("ab"))
	mustTell(t, "Begin", m.Begin(), queries(4, 2, 9)...)
	mustTell(t, "Take", m.Take(value(2, stamp(3, 8), "")))
	mustTell(t, "Take once more", m.Take(value(2, stamp(3, 8), "")))
	mustTell(t, "the last Take", m.Take(value(9, stamp(0, 0), "")), puts(stamp(4, 7), "ab", 4, 2, 9)...)
	mustTell(t, "Take", m.Take(ack(4)))
	mustTell(t, "Tick", m.Tick(), puts(stamp(4, 7), "ab", 2, 9)...)
	mustTell(t, "Take", m.Take(ack(9)))
	mustEnd(t, m, 6, api.Result{Stamp: stamp(4, 7)})
}

func TestExample2(t *testing.T) {
	m := begun(readOf(2))
	mustPassOver(t, m, value(9, stamp(3, 8), "xy"), value(4, stamp(3, 8), "xy"))
	mustEnd(t, m, 5, api.Result{Stamp: stamp(3, 8), Data: []byte("xy")})
	m = begun(readOf(2))
	mustPassOver(t, m, value(9, stamp(3, 8), "xy"))
	mustTell(t, "the last Take", m.Take(value(4, stamp(0, 0), "")), puts(stamp(3, 8), "xy", 4, 2, 9)...)
	mustGoOn(t, m, 6)
}

func TestExample3(t *testing.T) {
	m := begun(readOf(2))
	mustPassOver(t, m, value(9, stamp(0, 0), "any"), value(2, stamp(0, 0), ""))
	mustEnd(t, m, 5, api.Result{Data: []byte{0, 0}})
}

func TestExample4(t *testing.T) {
	other, wrong := value(4, stamp(3, 8), "xy"), value(4, stamp(3, 8), "xy")
	other.To.Id, wrong.Op = 8, 4
	for _, m := range both() {
		m.Begin()
		mustPassOver(t, m, inRound(ack(4), 5), inRound(value(4, stamp(3, 8), "xy"), 6), value(1, stamp(3, 8), "xy"), other, wrong)
		mustTell(t, "Tick", m.Tick(), queries(4, 2, 9)...)
		mustGoOn(t, m, 5)
	}
}

func TestExample5(t *testing.T) {
	m := begun(writeOf("ab"))
	mustPassOver(t, m, value(4, stamp(api.MaxNum, 1), "xy"), value(2, stamp(0, 0), ""))
	mustWear(t, m, 5)
	m = register.Write(7, 3, key, group(), api.MaxNum, []byte("ab"))
	mustTell(t, "Begin", m.Begin(), allInRound(queries(4, 2, 9), api.MaxNum)...)
	mustPassOver(t, m, inRound(value(4, stamp(3, 8), "xy"), api.MaxNum))
	mustGoOn(t, m, api.MaxNum)
	mustPassOver(t, m, inRound(value(2, stamp(3, 8), "xy"), api.MaxNum))
	mustWear(t, m, api.MaxNum)
	m = register.Write(7, 3, key, group(), 0, []byte("ab"))
	mustTell(t, "Begin", m.Begin())
	mustWear(t, m, 0)
}

// These stand here to be compiled: the faces have these types.
var (
	_ func(held api.Block, stamp api.Stamp, data []byte) (api.Block, bool)               = register.Newer
	_ func(client, op int, k api.Key, group []int, round int, data []byte) tally.Machine = register.Write
	_ func(client, op int, k api.Key, group []int, round, size int) tally.Machine        = register.Read
)
