package register_test

import (
	"bytes"
	"runtime"
	"slices"
	"testing"
	"weak"

	"cairn/api"
	"cairn/register"
	"cairn/tally"
)

// roomy has the same items, with others in its spare room.
func roomy[T any](list []T, spare T) []T {
	room := append(slices.Clone(list), spare, spare, spare)
	return room[:len(list)]
}

// spoil fills a list, its spare room too.
func spoil[T any](list []T, with T) {
	list = list[:cap(list)]
	for i := range list {
		list[i] = with
	}
}

func mustStand[T comparable](t *testing.T, list, want []T) {
	t.Helper()
	if !slices.Equal(list[:cap(list)], want) {
		t.Fatalf("what was handed in is %v now, its spare room too; it was %v", list[:cap(list)], want)
	}
}

// spoilMsgs fills messages and their blocks, and the spare room of both.
func spoilMsgs(list []api.Msg) {
	for _, m := range list[:cap(list)] {
		spoil(m.Block, '#')
	}
	spoil(list, api.Msg{Kind: 99, From: user(99), To: server(99), Round: 99, Block: []byte("spoiled")})
}

func TestP2NewerIsNewMemory(t *testing.T) {
	for _, s := range []api.Stamp{stamp(1, 1), stamp(2, 5), stamp(3, 1)} {
		held, data := api.Block{Stamp: stamp(2, 5), Data: roomy([]byte("held"), '!')}, roomy([]byte("data"), '?')
		wasHeld, wasData := slices.Clone(held.Data[:cap(held.Data)]), slices.Clone(data[:cap(data)])
		b, _ := register.Newer(held, s, data)
		want := string(b.Data)
		spoil(b.Data, '#')
		mustStand(t, held.Data, wasHeld)
		mustStand(t, data, wasData)
		b, _ = register.Newer(held, s, data)
		spoil(held.Data, 'x')
		spoil(data, 'y')
		if string(b.Data) != want {
			t.Fatalf("what Newer told has become %q", b.Data)
		}
	}
}

// An empty list with spare room is no way into what was handed in either.
func TestP2NewerOfEmptyLists(t *testing.T) {
	for _, s := range []api.Stamp{stamp(1, 1), stamp(3, 1)} {
		held, data := roomy([]byte{}, '!'), roomy([]byte{}, '?')
		wasHeld, wasData := slices.Clone(held[:cap(held)]), slices.Clone(data[:cap(data)])
		b, _ := register.Newer(api.Block{Stamp: stamp(2, 5), Data: held}, s, data)
		b.Data = append(b.Data, "more"...)
		mustStand(t, held, wasHeld)
		mustStand(t, data, wasData)
	}
}

func TestP2GroupAndDataAreNotKept(t *testing.T) {
	servers, data := roomy(group(), 77), roomy([]byte("ab"), '!')
	wasServers, wasData := slices.Clone(servers[:cap(servers)]), slices.Clone(data[:cap(data)])
	write := register.Write(client, op, key, servers, round, data)
	read := register.Read(client, op, key, servers, round, 2)
	mustStand(t, servers, wasServers)
	mustStand(t, data, wasData)
	spoil(servers, 1)
	spoil(data, '#')
	mustTell(t, "Begin", write.Begin(), queries(4, 2, 9)...)
	mustTell(t, "Begin", read.Begin(), queries(4, 2, 9)...)
	spoil(servers, 2)
	mustPassOver(t, write, value(4, stamp(3, 8), "xy"))
	mustTell(t, "the last Take", write.Take(value(9, stamp(3, 8), "xy")), puts(stamp(4, client), "ab", 4, 2, 9)...)
	spoil(data, '%')
	mustTell(t, "Tick", write.Tick(), puts(stamp(4, client), "ab", 4, 2, 9)...)
}

// Whatever a machine does, what it was handed at first stays as it was.
func TestP2GroupAndDataAreNotChanged(t *testing.T) {
	servers, data := roomy([]int{4, 4, 2, 9, 2}, 77), roomy([]byte("ab"), '!')
	wasServers, wasData := slices.Clone(servers[:cap(servers)]), slices.Clone(data[:cap(data)])
	for _, m := range []tally.Machine{register.Write(client, op, key, servers, round, data), register.Read(client, op, key, servers, round, 2)} {
		for _, s := range []step{{call: "Begin"}, {"Take", value(9, stamp(3, 8), "xy")}, {"Take", value(4, stamp(1, 1), "uv")}, {call: "Tick"}, {"Take", ack(2)}, {call: "Tick"}, {"Take", ack(4)}} {
			spoilMsgs(s.on(m))
			r, _ := m.Done()
			spoil(r.Data, '#')
			mustStand(t, servers, wasServers)
			mustStand(t, data, wasData)
		}
	}
}

// mustSpoil hands a message in whose block is spoiled behind the call; ahead of that it must stand as it was.
func mustSpoil(t *testing.T, m tally.Machine, a api.Msg) []api.Msg {
	t.Helper()
	a.Block = roomy(a.Block, '!')
	was := slices.Clone(a.Block[:cap(a.Block)])
	list := m.Take(a)
	mustStand(t, a.Block, was)
	spoil(a.Block, '#')
	return list
}

func TestP2MessagesAreNotKept(t *testing.T) {
	m := begun(readOf(2))
	mustSpoil(t, m, value(9, stamp(3, 8), "xy"))
	mustTell(t, "the last Take", mustSpoil(t, m, value(4, stamp(1, 1), "uv")), puts(stamp(3, 8), "xy", 4, 2, 9)...)
	mustSpoil(t, m, ack(9))
	mustTell(t, "Tick", m.Tick(), puts(stamp(3, 8), "xy", 4, 2)...)
	mustSpoil(t, m, ack(4))
	mustEnd(t, m, round+1, api.Result{Stamp: stamp(3, 8), Data: []byte("xy")})
	// The last one may be the one that tells the block.
	m = begun(readOf(2))
	mustSpoil(t, m, value(9, stamp(1, 1), "uv"))
	mustTell(t, "the last Take", mustSpoil(t, m, value(4, stamp(3, 8), "xy")), puts(stamp(3, 8), "xy", 4, 2, 9)...)
	m = begun(readOf(2))
	mustSpoil(t, m, value(9, stamp(3, 8), "xy"))
	mustSpoil(t, m, value(4, stamp(3, 8), "xy"))
	mustEnd(t, m, round, api.Result{Stamp: stamp(3, 8), Data: []byte("xy")})
}

// What a machine tells may be written over; it tells the same once more.
func TestP2MessagesToldAreNewMemory(t *testing.T) {
	for i, m := range []tally.Machine{writeOf("ab"), readOf(2)} {
		spoilMsgs(m.Begin())
		mustTell(t, "Tick", m.Tick(), queries(4, 2, 9)...)
		spoilMsgs(m.Tick())
		mustTell(t, "Tick", m.Tick(), queries(4, 2, 9)...)
		m.Take(value(9, stamp(3, 8), "xy"))
		spoilMsgs(m.Take(value(4, stamp(1, 1), "uv")))
		want := [][]api.Msg{puts(stamp(4, client), "ab", 4, 2, 9), puts(stamp(3, 8), "xy", 4, 2, 9)}[i]
		first := m.Tick()
		spoilMsgs(m.Tick())
		mustTell(t, "the Tick before", first, want...)
		spoilMsgs(first)
		mustTell(t, "Tick", m.Tick(), want...)
		m.Take(ack(9))
		spoilMsgs(m.Tick())
		m.Take(ack(4))
		mustEnd(t, m, round+1, []api.Result{{Stamp: stamp(4, client)}, {Stamp: stamp(3, 8), Data: []byte("xy")}}[i])
	}
}

// No two blocks of one answer share memory, their spare room neither.
func TestP2BlocksOfOneAnswer(t *testing.T) {
	for i, m := range []tally.Machine{writeOf("ab"), readOf(2)} {
		m.Begin()
		m.Take(value(9, stamp(3, 8), "xy"))
		for range 2 {
			list := m.Take(value(4, stamp(1, 1), "uv"))
			if list == nil {
				list = m.Tick()
			}
			want := []string{"ab", "xy"}[i]
			for n, x := range list {
				if string(x.Block) != want {
					t.Fatalf("the block of the message %d has become %q", n, x.Block)
				}
			}
			for n, x := range list {
				spoil(x.Block, byte('0'+n))
			}
			for n, x := range list {
				if room := x.Block[:cap(x.Block)]; !bytes.Equal(room, bytes.Repeat([]byte{byte('0' + n)}, len(room))) {
					t.Fatalf("two blocks of one answer share memory: the %dth is %q", n, room)
				}
			}
		}
	}
}

func TestP2ResultIsNewMemory(t *testing.T) {
	for _, s := range []api.Stamp{stamp(0, 0), stamp(3, 8)} {
		m := begun(readOf(2))
		mustPassOver(t, m, value(9, s, "\x00\x00"), value(4, s, "\x00\x00"))
		a, _ := m.Done()
		b, _ := m.Done()
		spoil(a.Data, '#')
		if string(b.Data) != "\x00\x00" {
			t.Fatalf("two answers of Done share memory: %q", b.Data)
		}
		spoil(b.Data, '%')
		mustEnd(t, m, round, api.Result{Stamp: s, Data: []byte{0, 0}})
	}
}

// No list and an empty one are the same, handed in.
func TestP2NoListAndEmptyOnes(t *testing.T) {
	for _, data := range [][]byte{nil, {}, roomy([]byte{}, '!')} {
		m := begun(register.Write(client, op, key, group(), round, data))
		a, b := value(9, stamp(3, 8), ""), value(4, stamp(3, 8), "")
		a.Block, b.Block = nil, data
		mustPassOver(t, m, a)
		mustTell(t, "the last Take", m.Take(b), puts(stamp(4, client), "", 4, 2, 9)...)
		read := begun(readOf(2))
		mustPassOver(t, read, a, b)
		mustEnd(t, read, round, api.Result{Stamp: stamp(3, 8)})
	}
}

type heavy [1 << 16]byte

// heavyWrite is a Write of data that nobody else has.
func heavyWrite() (tally.Machine, weak.Pointer[heavy]) {
	data := new(heavy)
	return register.Write(client, op, key, group(), round, data[:0]), weak.Make(data)
}

// takeHeavy hands in a block that nobody else has.
func takeHeavy(m tally.Machine, a api.Msg) weak.Pointer[heavy] {
	data := new(heavy)
	a.Block = data[:1]
	m.Take(a)
	return weak.Make(data)
}

// Of what is handed in nothing is kept, not even to be held without use.
func TestP2NothingIsHeld(t *testing.T) {
	write, data := heavyWrite()
	read := begun(readOf(2))
	held := []weak.Pointer[heavy]{
		data, takeHeavy(read, value(9, stamp(3, 8), "")), takeHeavy(read, value(1, stamp(3, 8), "")), takeHeavy(read, value(4, stamp(3, 8), "")),
	}
	runtime.GC()
	runtime.GC()
	for i, p := range held {
		if p.Value() != nil {
			t.Errorf("what was handed in is held: number %d", i)
		}
	}
	runtime.KeepAlive(write)
	runtime.KeepAlive(read)
}

// Two machines in turns, of one client and one group, do not touch each other.
func TestP7TwoMachinesInTurns(t *testing.T) {
	servers, data := group(), []byte("ab")
	a, b := register.Write(client, op, key, servers, round, data), register.Write(client, op, key, servers, round, data)
	mustTell(t, "Begin", a.Begin(), queries(4, 2, 9)...)
	mustTell(t, "Tick", b.Tick())
	mustPassOver(t, a, value(2, stamp(3, 8), "xy"))
	mustTell(t, "Begin", b.Begin(), queries(4, 2, 9)...)
	mustPassOver(t, b, value(9, stamp(5, 8), "xy"))
	mustTell(t, "the first one's Take", a.Take(value(4, stamp(0, 0), "")), puts(stamp(4, client), "ab", 4, 2, 9)...)
	mustTell(t, "Tick", b.Tick(), queries(4, 2)...)
	mustPassOver(t, a, ack(4))
	mustTell(t, "the second one's Take", b.Take(value(4, stamp(0, 0), "")), puts(stamp(6, client), "ab", 4, 2, 9)...)
	mustPassOver(t, a, ack(9))
	mustEnd(t, a, round+1, api.Result{Stamp: stamp(4, client)})
	mustGoOn(t, b, round+1)
	mustTell(t, "Tick", b.Tick(), puts(stamp(6, client), "ab", 4, 2, 9)...)
}
