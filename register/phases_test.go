package register_test

import (
	"math"
	"testing"

	"cairn/api"
	"cairn/register"
	"cairn/tally"
)

// mustWriteTag looks which tag a Write takes behind these of two servers.
func mustWriteTag(t *testing.T, a, b, want api.Stamp) {
	t.Helper()
	m := begun(writeOf("ab"))
	mustPassOver(t, m, value(9, a, "1"))
	mustTell(t, "the last Take", m.Take(value(4, b, "2")), puts(want, "ab", 4, 2, 9)...)
	mustGoOn(t, m, round+1)
	mustPassOver(t, m, ack(2), ack(4))
	mustEnd(t, m, round+1, api.Result{Stamp: want})
}

func TestP705WritesTag(t *testing.T) {
	for _, c := range []struct{ low, high, want api.Stamp }{
		{stamp(0, 0), stamp(0, 0), stamp(1, client)},
		{stamp(0, 0), stamp(3, 8), stamp(4, client)},
		{stamp(3, 8), stamp(3, 8), stamp(4, client)},
		{stamp(3, 1), stamp(3, 8), stamp(4, client)},
		{stamp(3, 255), stamp(4, 1), stamp(5, client)},
		{stamp(3, client), stamp(3, client), stamp(4, client)},
		{stamp(1, 1), stamp(api.MaxNum-1, 255), stamp(api.MaxNum, client)},
		{stamp(api.MaxNum-1, 1), stamp(api.MaxNum-1, 2), stamp(api.MaxNum, client)},
		{stamp(-3, 5), stamp(-2, 5), stamp(-1, client)},
		{stamp(-1, 9), stamp(-1, 9), stamp(0, client)},
		{stamp(math.MinInt, 0), stamp(math.MinInt, 1), stamp(math.MinInt+1, client)},
		{stamp(0, -1), stamp(0, 0), stamp(1, client)},
		{stamp(-5, 5), stamp(0, -9), stamp(1, client)},
	} {
		mustWriteTag(t, c.low, c.high, c.want)
		mustWriteTag(t, c.high, c.low, c.want)
	}
}

// A tag {0, 0} is a Write's as any other: its block is data.
func TestP705WriteOfNoTag(t *testing.T) {
	m := begun(register.Write(0, op, key, group(), round, []byte("ab")))
	for _, id := range []int{4, 2} {
		a := value(id, stamp(-1, 3), "xy")
		a.To.Id = 0
		if list := m.Take(a); id == 2 && (len(list) != 3 || list[2].Stamp != stamp(0, 0) || string(list[2].Block) != "ab") {
			t.Fatalf("the last Take tells %v", list)
		}
	}
}

func TestP705WriteWornByATag(t *testing.T) {
	for _, n := range []int{api.MaxNum, api.MaxNum + 1, math.MaxInt} {
		for _, low := range []api.Stamp{stamp(0, 0), stamp(api.MaxNum-1, 3), stamp(n, 1), stamp(n, 0)} {
			for _, first := range []bool{true, false} {
				m := begun(writeOf("ab"))
				a, b := value(9, stamp(n, 1), "xy"), value(2, low, "uv")
				if first {
					a, b = value(2, low, "uv"), value(9, stamp(n, 1), "xy")
				}
				mustPassOver(t, m, a)
				mustGoOn(t, m, round)
				mustPassOver(t, m, b)
				mustWear(t, m, round)
			}
		}
	}
}

// An MValue with the last tag that does not count wears nothing.
func TestP705LastTagThatDoesNotCount(t *testing.T) {
	m := begun(writeOf("ab"))
	mustPassOver(t, m, value(9, stamp(3, 8), "xy"), value(9, stamp(api.MaxNum, 1), "xy"), value(1, stamp(api.MaxNum, 1), "xy"))
	mustTell(t, "the last Take", m.Take(value(2, stamp(0, 0), "")), puts(stamp(4, client), "ab", 4, 2, 9)...)
	mustPassOver(t, m, value(4, stamp(api.MaxNum, 1), "xy"))
	mustGoOn(t, m, round+1)
}

// Where all have one stamp a Read is at its end behind the first phase.
func TestP705ReadOfAlikeStamps(t *testing.T) {
	for _, s := range []api.Stamp{stamp(3, 8), stamp(0, 1), stamp(1, 0), stamp(0, -1), stamp(-1, 0), stamp(-4, 2), stamp(api.MaxNum, 1), stamp(api.MaxNum+1, 1), stamp(math.MaxInt, 256), stamp(math.MinInt, math.MinInt)} {
		m := begun(readOf(2))
		mustPassOver(t, m, value(9, s, "xy"))
		mustGoOn(t, m, round)
		mustPassOver(t, m, value(4, s, "xy"))
		mustEnd(t, m, round, api.Result{Stamp: s, Data: []byte("xy")})
	}
}

func TestP705ReadOfABlockThatNobodyWrote(t *testing.T) {
	m := begun(readOf(3))
	mustPassOver(t, m, value(9, stamp(0, 0), "any"), value(4, stamp(0, 0), "block of any length"))
	mustEnd(t, m, round, api.Result{Data: []byte{0, 0, 0}})
	m = begun(readOf(3))
	mustPassOver(t, m, value(2, stamp(0, 0), ""), value(9, stamp(0, 0), ""))
	mustEnd(t, m, round, api.Result{Data: []byte{0, 0, 0}})
}

// mustReadDown looks what a Read lays down behind unlike stamps of two servers, and what it is answered then.
func mustReadDown(t *testing.T, a, b api.Msg, tag api.Stamp, block string) {
	t.Helper()
	m := begun(readOf(2))
	mustPassOver(t, m, a)
	mustGoOn(t, m, round)
	mustTell(t, "the last Take", m.Take(b), puts(tag, block, 4, 2, 9)...)
	mustGoOn(t, m, round+1)
	mustPassOver(t, m, ack(9))
	mustGoOn(t, m, round+1)
	mustPassOver(t, m, ack(2))
	mustEnd(t, m, round+1, api.Result{Stamp: tag, Data: []byte(block)})
}

func TestP705ReadOfUnlikeStamps(t *testing.T) {
	for _, c := range []struct{ low, high api.Stamp }{
		{stamp(0, 0), stamp(3, 8)},
		{stamp(3, 7), stamp(3, 8)},
		{stamp(2, 255), stamp(3, 1)},
		{stamp(0, 0), stamp(0, 1)},
		{stamp(-4, 1), stamp(-3, 1)},
		{stamp(-1, 255), stamp(0, -1)},
		{stamp(api.MaxNum, 1), stamp(api.MaxNum, 2)},
		{stamp(api.MaxNum, 1), stamp(math.MaxInt, 1)},
		{stamp(math.MinInt, 0), stamp(math.MaxInt, 0)},
	} {
		for _, block := range []string{"xy", "", "longer than its size"} {
			mustReadDown(t, value(9, c.low, "??"), value(4, c.high, block), c.high, block)
			mustReadDown(t, value(9, c.high, block), value(4, c.low, "??"), c.high, block)
			mustReadDown(t, value(4, c.high, block), value(2, c.low, "??"), c.high, block)
			mustReadDown(t, value(2, c.low, "??"), value(9, c.high, block), c.high, block)
		}
	}
}

// The greatest may be {0, 0}, where others are below it: its block is zeros, here too.
func TestP705ReadOfStampsBelowNone(t *testing.T) {
	for _, low := range []api.Stamp{stamp(-1, 9), stamp(0, -1)} {
		mustReadDown(t, value(9, low, "low"), value(4, stamp(0, 0), "any"), stamp(0, 0), "\x00\x00")
		mustReadDown(t, value(9, stamp(0, 0), "any"), value(4, low, "low"), stamp(0, 0), "\x00\x00")
	}
}

// Of several with the greatest stamp the first in the group's order tells the block, not the first that came.
func TestP705FirstInTheGroupsOrder(t *testing.T) {
	servers, block := []int{5, 4, 3, 2, 1}, map[int]string{5: "five", 4: "four", 3: "three", 2: "two", 1: "one"}
	for _, order := range [][]int{{1, 2, 3}, {3, 2, 1}, {2, 5, 4}, {4, 1, 5}, {5, 3, 1}, {1, 4, 3}} {
		first := max(order[0], order[1], order[2])
		m := begun(register.Read(client, op, key, servers, round, 2))
		for _, id := range order {
			mustTell(t, "Take", m.Take(value(id, stamp(3, 8), block[id])))
		}
		mustEnd(t, m, round, api.Result{Stamp: stamp(3, 8), Data: []byte(block[first])})
		for _, low := range order { // one of the three has a lower stamp
			m := begun(register.Read(client, op, key, servers, round, 2))
			var list []api.Msg
			first := 0
			for _, id := range order {
				s := stamp(3, 8)
				if id == low {
					s = stamp(3, 7)
				} else {
					first = max(first, id)
				}
				list = m.Take(value(id, s, block[id]))
			}
			mustTell(t, "the last Take", list, puts(stamp(3, 8), block[first], servers...)...)
		}
	}
}

// What came behind need of them does not count.
func TestP705LaterValuesDoNotCount(t *testing.T) {
	m := begun(readOf(2))
	mustPassOver(t, m, value(9, stamp(3, 8), "xy"), value(2, stamp(3, 8), "uv"), value(4, stamp(9, 9), "late"))
	mustEnd(t, m, round, api.Result{Stamp: stamp(3, 8), Data: []byte("uv")})
	m = begun(readOf(2))
	mustPassOver(t, m, value(9, stamp(3, 8), "xy"))
	m.Take(value(2, stamp(1, 8), "uv"))
	mustPassOver(t, m, value(4, stamp(9, 9), "late"))
	mustTell(t, "Tick", m.Tick(), puts(stamp(3, 8), "xy", 4, 2, 9)...)
}

func TestP705WornByTheRound(t *testing.T) {
	last := func(m api.Msg) api.Msg { return inRound(m, api.MaxNum) }
	for _, m := range inRoundOf(api.MaxNum) {
		m.Begin()
		mustPassOver(t, m, last(value(9, stamp(3, 8), "xy")))
		mustGoOn(t, m, api.MaxNum)
		mustPassOver(t, m, last(value(4, stamp(1, 1), "uv")))
		mustWear(t, m, api.MaxNum)
	}
	// Worn by both: it is the same error.
	m := begun(register.Write(client, op, key, group(), api.MaxNum, nil))
	mustPassOver(t, m, last(value(9, stamp(api.MaxNum, 8), "xy")), last(value(4, stamp(1, 1), "uv")))
	mustWear(t, m, api.MaxNum)
	// A Read that needs no second phase has its end with OK in the last round too.
	m = begun(register.Read(client, op, key, group(), api.MaxNum, 2))
	mustPassOver(t, m, last(value(9, stamp(3, 8), "xy")), last(value(4, stamp(3, 8), "xy")))
	mustEnd(t, m, api.MaxNum, api.Result{Stamp: stamp(3, 8), Data: []byte("xy")})
}

func TestP705SecondPhaseInTheLastRound(t *testing.T) {
	for i, m := range inRoundOf(api.MaxNum - 1) {
		m.Begin()
		mustPassOver(t, m, inRound(value(9, stamp(3, 8), "xy"), api.MaxNum-1))
		want := [][]api.Msg{puts(stamp(4, client), "ab", 4, 2, 9), puts(stamp(3, 8), "xy", 4, 2, 9)}[i]
		mustTell(t, "the last Take", m.Take(inRound(value(4, stamp(1, 1), "uv"), api.MaxNum-1)), allInRound(want, api.MaxNum)...)
		mustGoOn(t, m, api.MaxNum)
		mustPassOver(t, m, inRound(ack(4), api.MaxNum), inRound(ack(2), api.MaxNum))
		mustEnd(t, m, api.MaxNum, []api.Result{{Stamp: stamp(4, client)}, {Stamp: stamp(3, 8), Data: []byte("xy")}}[i])
	}
}

// The first round is 1: no lower one is passed through.
func TestP705FirstRound(t *testing.T) {
	m := begun(register.Write(client, op, key, group(), 1, []byte("ab")))
	mustPassOver(t, m, inRound(value(9, stamp(0, 0), ""), 1))
	mustTell(t, "the last Take", m.Take(inRound(value(4, stamp(0, 0), ""), 1)), allInRound(puts(stamp(1, client), "ab", 4, 2, 9), 2)...)
	mustPassOver(t, m, inRound(ack(4), 2), inRound(ack(9), 2))
	mustEnd(t, m, 2, api.Result{Stamp: stamp(1, client)})
}

func TestP706AnyMajorityOfAcks(t *testing.T) {
	for _, order := range [][]int{{4, 2}, {2, 4}, {4, 9}, {9, 4}, {2, 9}, {9, 2}} {
		for name, m := range both() {
			m.Begin()
			mustPassOver(t, m, value(9, stamp(3, 8), "xy"))
			m.Take(value(4, stamp(1, 1), "uv"))
			mustPassOver(t, m, ack(order[0]))
			mustGoOn(t, m, round+1)
			mustPassOver(t, m, ack(order[1]))
			want := map[string]api.Result{"write": {Stamp: stamp(4, client)}, "read": {Stamp: stamp(3, 8), Data: []byte("xy")}}
			mustEnd(t, m, round+1, want[name])
		}
	}
}

// Behind each number of answers, in each phase.
func TestP707Tick(t *testing.T) {
	servers := []int{5, 4, 3, 2, 1}
	write := register.Write(client, op, key, servers, round, []byte("ab"))
	read := register.Read(client, op, key, servers, round, 2)
	for i, m := range []tally.Machine{write, read} {
		m.Begin()
		mustTickTwice(t, m, queries(5, 4, 3, 2, 1))
		mustPassOver(t, m, value(2, stamp(3, 8), "xy"))
		mustTickTwice(t, m, queries(5, 4, 3, 1))
		mustPassOver(t, m, value(5, stamp(3, 8), "xy"))
		mustTickTwice(t, m, queries(4, 3, 1))
		tag, block := []api.Stamp{stamp(4, client), stamp(3, 8)}[i], []string{"ab", "xy"}[i]
		mustTell(t, "the last Take", m.Take(value(1, stamp(1, 1), "q")), puts(tag, block, servers...)...)
		mustTickTwice(t, m, puts(tag, block, 5, 4, 3, 2, 1))
		mustPassOver(t, m, ack(1))
		mustTickTwice(t, m, puts(tag, block, 5, 4, 3, 2))
		mustPassOver(t, m, ack(4))
		mustTickTwice(t, m, puts(tag, block, 5, 3, 2))
		mustPassOver(t, m, ack(5))
		mustTickTwice(t, m, nil)
		mustEnd(t, m, round+1, []api.Result{{Stamp: tag}, {Stamp: tag, Data: []byte("xy")}}[i])
	}
}

// mustTickTwice looks that a tick tells these, and changes nothing.
func mustTickTwice(t *testing.T, m tally.Machine, want []api.Msg) {
	t.Helper()
	was := m.Round()
	for range 2 {
		mustTell(t, "Tick", m.Tick(), want...)
		if m.Round() != was {
			t.Fatalf("behind a Tick Round tells %d, not %d", m.Round(), was)
		}
	}
}

func TestP707TickOfAGroupOfOne(t *testing.T) {
	m := begun(register.Write(client, op, key, []int{4, 4}, round, []byte("ab")))
	mustTickTwice(t, m, queries(4))
	mustTell(t, "the last Take", m.Take(value(4, stamp(0, 0), "")), puts(stamp(1, client), "ab", 4)...)
	mustTickTwice(t, m, puts(stamp(1, client), "ab", 4))
	mustPassOver(t, m, ack(4))
	mustTickTwice(t, m, nil)
}

func TestP708DoneOfAWrite(t *testing.T) {
	m := writeOf("ab")
	mustGoOn(t, m, round)
	m.Begin()
	mustGoOn(t, m, round)
	mustPassOver(t, m, value(9, stamp(3, 8), "xy"))
	mustGoOn(t, m, round)
	m.Take(value(2, stamp(0, 0), ""))
	mustGoOn(t, m, round+1)
	mustPassOver(t, m, ack(9))
	mustGoOn(t, m, round+1)
	m.Tick()
	mustGoOn(t, m, round+1)
	mustPassOver(t, m, ack(2))
	mustEnd(t, m, round+1, api.Result{Stamp: stamp(4, client)}) // no Data
}

func TestP708DoneOfARead(t *testing.T) {
	m := readOf(2)
	mustGoOn(t, m, round)
	m.Begin()
	mustGoOn(t, m, round)
	mustPassOver(t, m, value(9, stamp(3, 8), "xy"))
	mustGoOn(t, m, round)
	m.Take(value(2, stamp(3, 9), "uv"))
	mustGoOn(t, m, round+1)
	mustPassOver(t, m, ack(9))
	mustGoOn(t, m, round+1)
	mustPassOver(t, m, ack(4))
	mustEnd(t, m, round+1, api.Result{Stamp: stamp(3, 9), Data: []byte("uv")})
}
