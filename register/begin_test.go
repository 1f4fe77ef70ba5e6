package register_test

import (
	"bytes"
	"math"
	"slices"
	"testing"

	"cairn/api"
	"cairn/register"
	"cairn/tally"
)

// inRoundOf are a Write and a Read that would begin in this round.
func inRoundOf(round int) []tally.Machine {
	return []tally.Machine{
		register.Write(client, op, key, group(), round, []byte("ab")),
		register.Read(client, op, key, group(), round, 2),
	}
}

func TestP702NotBegun(t *testing.T) {
	for name, m := range both() {
		t.Run(name, func(t *testing.T) { mustGoOn(t, m, round) })
	}
	for _, round := range []int{math.MinInt, -1, 0, 1, api.MaxNum, api.MaxNum + 1, math.MaxInt} {
		for _, m := range inRoundOf(round) {
			mustGoOn(t, m, round)
		}
	}
}

func TestP702WritesBlockIsData(t *testing.T) {
	for _, data := range [][]byte{nil, {}, {0}, []byte("ab"), bytes.Repeat([]byte{255}, api.MaxBlock), bytes.Repeat([]byte{1}, api.MaxBlock+1)} {
		m := begun(register.Write(client, op, key, group(), round, data))
		mustPassOver(t, m, value(9, stamp(3, 8), "its block is not the write's"))
		mustTell(t, "the last Take", m.Take(value(2, stamp(1, 1), "nor is this")), puts(stamp(4, client), string(data), 4, 2, 9)...)
	}
}

func TestP702ReadsSize(t *testing.T) {
	for _, c := range []struct{ size, zeros int }{
		{math.MinInt, 0}, {-1, 0}, {0, 0}, {1, 1}, {2, 2}, {4095, 4095}, {4096, 4096}, {4097, 4096}, {1 << 40, 4096}, {math.MaxInt, 4096},
	} {
		m := begun(readOf(c.size))
		mustPassOver(t, m, value(9, stamp(0, 0), "one"), value(2, stamp(0, 0), "two"))
		mustEnd(t, m, round, api.Result{Data: make([]byte, c.zeros)})
	}
}

// The size is that of a block that nobody wrote, and of no other.
func TestP702SizeOfOtherBlocks(t *testing.T) {
	for _, size := range []int{-1, 0, 1, 3, api.MaxBlock + 1} {
		for _, block := range []string{"", "xy", string(make([]byte, api.MaxBlock+1))} {
			m := begun(readOf(size))
			mustPassOver(t, m, value(9, stamp(3, 8), block), value(2, stamp(3, 8), block))
			mustEnd(t, m, round, api.Result{Stamp: stamp(3, 8), Data: []byte(block)})
		}
	}
}

func TestP703Begin(t *testing.T) {
	for name, m := range both() {
		t.Run(name, func(t *testing.T) {
			mustTell(t, "Begin", m.Begin(), queries(4, 2, 9)...)
			mustGoOn(t, m, round)
		})
	}
}

func TestP703RoundsThatMayBe(t *testing.T) {
	for _, round := range []int{1, 2, api.MaxNum - 1, api.MaxNum} {
		for _, m := range inRoundOf(round) {
			mustTell(t, "Begin", m.Begin(), allInRound(queries(4, 2, 9), round)...)
			mustGoOn(t, m, round)
		}
	}
}

func TestP703RoundsThatMayNotBe(t *testing.T) {
	for _, round := range []int{math.MinInt, -5, -1, 0, api.MaxNum + 1, api.MaxNum + 2, math.MaxInt} {
		for _, m := range inRoundOf(round) {
			mustTell(t, "Begin", m.Begin())
			mustWear(t, m, round)
		}
		mustTell(t, "Begin", register.Read(client, op, key, nil, round, 2).Begin())
		m := begun(register.Write(client, op, key, nil, round, nil))
		mustWear(t, m, round)
	}
}

func TestP703SecondBegin(t *testing.T) {
	for name, m := range both() {
		t.Run(name, func(t *testing.T) {
			m.Begin()
			for range 3 {
				mustTell(t, "a second Begin", m.Begin())
				mustGoOn(t, m, round)
				mustTell(t, "Tick", m.Tick(), queries(4, 2, 9)...)
			}
			mustPassOver(t, m, value(2, stamp(3, 8), "xy"))
			mustTell(t, "a second Begin", m.Begin())
			mustTell(t, "Tick", m.Tick(), queries(4, 9)...) // what was taken is still taken
			if list := m.Take(value(4, stamp(1, 1), "q")); len(list) != 3 {
				t.Fatalf("the second phase begins with %v", list)
			}
			mustTell(t, "Begin in the second phase", m.Begin())
			mustGoOn(t, m, round+1)
			mustPassOver(t, m, ack(9))
			mustTell(t, "Begin in the second phase", m.Begin())
			if list := m.Tick(); len(list) != 2 || list[0].Kind != api.MPut || list[0].Round != round+1 {
				t.Fatalf("Tick tells %v", list)
			}
		})
	}
}

func TestP703AheadOfBegin(t *testing.T) {
	for name, m := range both() {
		t.Run(name, func(t *testing.T) {
			for range 2 {
				mustTell(t, "Tick ahead of Begin", m.Tick())
				for _, id := range group() {
					mustPassOver(t, m, value(id, stamp(3, 8), "xy"), ack(id), inRound(ack(id), round), inRound(value(id, stamp(0, 0), ""), 0))
				}
				mustGoOn(t, m, round)
			}
			// Those answers were not taken: all are asked, and all may answer.
			mustTell(t, "Begin", m.Begin(), queries(4, 2, 9)...)
			mustPassOver(t, m, value(4, stamp(3, 8), "xy"))
			mustTell(t, "Tick", m.Tick(), queries(2, 9)...)
		})
	}
	for _, m := range inRoundOf(0) { // it is not at its end ahead of Begin
		mustTell(t, "Tick ahead of Begin", m.Tick())
		mustPassOver(t, m, inRound(value(4, stamp(3, 8), "xy"), 0), inRound(value(2, stamp(3, 8), "xy"), 0))
		mustGoOn(t, m, 0)
	}
}

// Whoever the client, and whatever the op and the key: they are on each message.
func TestP703WhateverMayNotBe(t *testing.T) {
	for _, n := range []int{math.MinInt, -1, 0, 1, 255, 256, api.MaxNum + 1, math.MaxInt} {
		for _, k := range []api.Key{{}, {Kind: -1, A: n, B: n, C: n}, {Kind: api.KBucket, A: 3}, {Kind: api.KInstance, A: 1, B: n}} {
			want := queries(4, 2, 9)
			for i := range want {
				want[i].From.Id, want[i].Op, want[i].Key = n, n, k
			}
			mustTell(t, "Begin", register.Write(n, n, k, group(), round, nil).Begin(), want...)
			mustTell(t, "Begin", register.Read(n, n, k, group(), round, 2).Begin(), want...)
		}
	}
}

// runAlone asks a machine up to its end: servers of the group answer in its order, with these stamps. It tells how many MValue and how many MAck that took.
func runAlone(t *testing.T, m tally.Machine, servers []int, tags []api.Stamp) (values, acks int) {
	t.Helper()
	begin := m.Begin()
	var to []int
	for _, x := range begin {
		to = append(to, x.To.Id)
	}
	if !slices.Equal(to, servers) {
		t.Fatalf("Begin tells messages to %v, not to %v", to, servers)
	}
	var second []api.Msg
	for i, id := range servers {
		values++
		second = m.Take(value(id, tags[i], "xy"))
		if _, done := m.Done(); done || len(second) > 0 {
			break
		}
	}
	for _, x := range second {
		acks++
		m.Take(ack(x.To.Id))
		if _, done := m.Done(); done {
			break
		}
	}
	return values, acks
}

func TestP703GroupAndNeed(t *testing.T) {
	for _, c := range []struct {
		group, unlike []int
		need          int
	}{
		{[]int{5}, []int{5}, 1},
		{[]int{5, 5, 5}, []int{5}, 1},
		{[]int{4, 2}, []int{4, 2}, 2},
		{[]int{4, 4, 2, 4}, []int{4, 2}, 2},
		{[]int{4, 2, 9}, []int{4, 2, 9}, 2},
		{[]int{9, 2, 2, 4, 9, 2}, []int{9, 2, 4}, 2},
		{[]int{4, 2, 9, 1}, []int{4, 2, 9, 1}, 3},
		{[]int{5, 4, 3, 2, 1}, []int{5, 4, 3, 2, 1}, 3},
		{[]int{5, 4, 3, 2, 1, 1, 2, 3, 4, 5, 5, 5}, []int{5, 4, 3, 2, 1}, 3},
		{[]int{1, 2, 3, 4, 5, 6, 7}, []int{1, 2, 3, 4, 5, 6, 7}, 4},
		{[]int{0, -1, 256, 0, math.MaxInt, math.MinInt}, []int{0, -1, 256, math.MaxInt, math.MinInt}, 3},
	} {
		alike, unlike := make([]api.Stamp, len(c.unlike)), make([]api.Stamp, len(c.unlike))
		for i := range unlike {
			alike[i], unlike[i] = stamp(3, 8), stamp(i+1, 8)
		}
		write := register.Write(client, op, key, c.group, round, []byte("ab"))
		if values, acks := runAlone(t, write, c.unlike, alike); values != c.need || acks != c.need {
			t.Fatalf("group %v: a Write takes %d MValue and %d MAck, not %d", c.group, values, acks, c.need)
		}
		mustEnd(t, write, round+1, api.Result{Stamp: stamp(4, client)})
		read := register.Read(client, op, key, c.group, round, 2)
		if values, acks := runAlone(t, read, c.unlike, alike); values != c.need || acks != 0 {
			t.Fatalf("group %v: a Read of alike ones takes %d MValue and %d MAck, not %d and none", c.group, values, acks, c.need)
		}
		mustEnd(t, read, round, api.Result{Stamp: stamp(3, 8), Data: []byte("xy")})
		if c.need == 1 {
			continue
		}
		read = register.Read(client, op, key, c.group, round, 2)
		if values, acks := runAlone(t, read, c.unlike, unlike); values != c.need || acks != c.need {
			t.Fatalf("group %v: a Read of unlike ones takes %d MValue and %d MAck, not %d", c.group, values, acks, c.need)
		}
		mustEnd(t, read, round+1, api.Result{Stamp: stamp(c.need, 8), Data: []byte("xy")})
	}
}

func TestP703GroupOfNone(t *testing.T) {
	for _, none := range [][]int{nil, {}} {
		for _, m := range []tally.Machine{register.Write(client, op, key, none, round, nil), register.Read(client, op, key, none, round, 2)} {
			mustTell(t, "Begin", m.Begin())
			for _, id := range []int{0, 4, 2, 9} {
				mustPassOver(t, m, value(id, stamp(3, 8), "xy"), ack(id), inRound(ack(id), round))
				mustTell(t, "Tick", m.Tick())
				mustGoOn(t, m, round)
			}
		}
	}
}

// More servers than there are ids, so that no order of a map's own stays unseen.
func TestP703GreatGroup(t *testing.T) {
	const count = 3001
	var servers []int
	for i := range 2 * count {
		servers = append(servers, i*1000%count)
	}
	m := register.Read(client, op, key, servers, round, 2)
	mustTell(t, "Begin", m.Begin(), queries(servers[:count]...)...)
	for i := range count / 2 {
		mustPassOver(t, m, value(servers[2*i], stamp(i, 8), "xy"))
	}
	var missing []int
	for i, id := range servers[:count] {
		if i%2 == 1 || i == count-1 {
			missing = append(missing, id)
		}
	}
	mustTell(t, "Tick", m.Tick(), queries(missing...)...)
	mustTell(t, "the last Take", m.Take(value(servers[count-1], stamp(9999, 1), "last")), puts(stamp(9999, 1), "last", servers[:count]...)...)
}
