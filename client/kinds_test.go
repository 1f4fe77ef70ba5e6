package client_test

import (
	"slices"
	"testing"

	"cairn/api"
	"cairn/wire"
)

// bodies are packets of client 5 to the servers of a group, told by the bytes of their bodies: what stands ahead of the server's id, and what stands behind it.
func bodies(group []int, ahead, behind []byte) []api.Packet {
	var list []api.Packet
	for _, id := range group {
		body := slices.Concat(ahead, []byte{byte(id)}, behind)
		list = append(list, api.Packet{From: api.Addr{Client: true, Id: 5}, To: api.Addr{Id: id}, Data: wire.Seal(body)})
	}
	return list
}

// commandBytes are those of the seven kinds of commands, as operation op: of "plum" and the files that ofEachKind names.
func commandBytes(op byte) [][]byte {
	name := []byte{4, 'p', 'l', 'u', 'm'}
	named := func(kind byte, rest ...byte) []byte {
		return slices.Concat([]byte{kind, 5, op}, name, rest)
	}
	return [][]byte{
		named(1, 0, 0, 0, 0, 0), named(2, 0, 0, 0, 0, 0), named(3, 0, 0, 0, 0, 0), {4, 5, op, 0, 0, 0, 0, 0, 0},
		named(5, 5, 1, 0, 0, 6), named(6, 5, 1, 0, 0, 7), named(7, 5, 1, 9, 3, 2),
	}
}

// resultsOf are those of the seven kinds of commands in a bucket without anything, in the instance 1; and, with the entry of "plum" in it, that of file {5, 1}, in the instance 2.
func resultsOf(instance int) []api.Result {
	plum := func(f api.File, size int) api.Result {
		return api.Result{Entry: entry("plum", f, size), Instance: instance}
	}
	mine := file(5, 1)
	if instance == 1 {
		none := api.Result{Err: api.ErrNotFound, Instance: 1}
		return []api.Result{plum(mine, 0), none, none, {Instance: 1}, none, none, none}
	}
	exists := plum(mine, 0)
	exists.Err = api.ErrExists
	all := api.Result{List: []api.Entry{entry("plum", mine, 0)}, Instance: instance}
	return []api.Result{exists, plum(mine, 0), plum(mine, 0), all, plum(mine, 6), plum(mine, 7), plum(file(9, 3), 2)}
}

// Each kind of command from its Invoke to its end, to the byte; the first one of a client, and its second one.
func TestP1403CommandBytes(t *testing.T) {
	group := []int{20, 30, 10}
	for i, o := range ofEachKind(four())[:7] {
		for op := byte(1); op <= 2; op++ {
			c := fresh(t)
			if op == 2 {
				decide(t, c, create("plum"), plum)
			}
			round, ballot, instance := 2*op-1, op, op
			a := ask{op: int(op), round: int(round), ballot: int(ballot), key: at(3, int(instance))}
			command := commandBytes(op)[i]
			key := []byte{3, 3, instance, 0}
			l, err := c.Invoke(o)
			if err != api.OK {
				t.Fatal(err)
			}
			mustPackets(t, "Invoke", l, bodies(group, []byte{3, 1, 5, 0}, slices.Concat([]byte{op, round}, key, []byte{ballot, 5})))
			mustPend(t, c)
			mustPassOver(t, c, a.promise(20))
			l = c.Tick()
			mustPackets(t, "Tick", l, bodies(group[1:], []byte{3, 1, 5, 0}, slices.Concat([]byte{op, round}, key, []byte{ballot, 5})))
			accept := slices.Concat([]byte{op, round + 1}, key, []byte{ballot, 5}, command)
			l = c.Step(encoded(t, four(), a.promise(10)))
			mustPackets(t, "the last promise", l, bodies(group, []byte{4, 1, 5, 0}, accept))
			mustPend(t, c)
			mustPassOver(t, c, a.second().accepted(30))
			mustPackets(t, "Tick", c.Tick(), bodies([]int{20, 10}, []byte{4, 1, 5, 0}, accept))
			l = c.Step(encoded(t, four(), a.second().accepted(20)))
			mustPackets(t, "the last acceptance", l, bodies(group, []byte{5, 1, 5, 0}, slices.Concat([]byte{op, round + 1}, key, command)))
			mustReturn(t, c, resultsOf(int(instance))[i])
			if c.Number() != int(op) {
				t.Errorf("the number %d", c.Number())
			}
		}
	}
}

// blockGroup is that of the block 3 of the file {7, 12}, as chapter 2's examples tell it.
var blockGroup = []int{20, 30, 10}

// mustLayDown brings an operation on that block, the first one of its client, through both phases, to the byte: two servers tell {7, 9} and {3, 200}, and put is what the stamp and the block of its MPut are.
func mustLayDown(t *testing.T, c machine, o api.Op, put string, want api.Result) {
	t.Helper()
	a := ask{op: 1, round: 1, key: block(file(7, 12), 3)}
	query, lay := []byte{1, 1, 1, 7, 12, 3}, slices.Concat([]byte{1, 2, 1, 7, 12, 3}, []byte(put))
	l, err := c.Invoke(o)
	if err != api.OK {
		t.Fatal(err)
	}
	mustPackets(t, "Invoke", l, bodies(blockGroup, []byte{1, 1, 5, 0}, query))
	mustPassOver(t, c, a.value(30, stamp(7, 9), "the last"))
	mustPackets(t, "Tick", c.Tick(), bodies([]int{20, 10}, []byte{1, 1, 5, 0}, query))
	l = c.Step(encoded(t, four(), a.value(10, stamp(3, 200), "long ago")))
	mustPackets(t, "the last value", l, bodies(blockGroup, []byte{2, 1, 5, 0}, lay))
	mustPend(t, c)
	mustPassOver(t, c, a.second().ack(10))
	mustPackets(t, "Tick", c.Tick(), bodies([]int{20, 30}, []byte{2, 1, 5, 0}, lay))
	mustStep(t, c, a.second().ack(20))
	mustReturn(t, c, want)
}

func TestP1403WriteBytes(t *testing.T) {
	c := fresh(t)
	mustLayDown(t, c, write(file(7, 12), 3, "8 bytes."), "\x08\x05\x088 bytes.", api.Result{Stamp: stamp(8, 5)})
	mustNews(t, c)
}

func TestP1403ReadBytes(t *testing.T) {
	c := fresh(t)
	mustLayDown(t, c, read(file(7, 12), 3), "\x07\x09\x08the last", api.Result{Stamp: stamp(7, 9), Data: []byte("the last")})
	// One tag at a majority: nothing is laid down. Nobody wrote: Block zeros.
	readIt(t, c, read(file(7, 12), 3), ask{op: 2, round: 3, key: block(file(7, 12), 3)}, stamp(7, 9), "the last")
	readIt(t, c, read(file(7, 12), 4), ask{op: 3, round: 4, key: block(file(7, 12), 4)}, stamp(0, 0), string(make([]byte, 8)))
	mustNews(t, c)
}

// Operations one behind the other, on several buckets and blocks: rounds and ballots go on from one to the next, instances by bucket.
func TestP1403OneBehindTheOther(t *testing.T) {
	c := fresh(t)
	other := nameIn(four(), 0, 0)
	decide(t, c, create("plum"), ask{op: 1, round: 1, ballot: 1, key: at(3, 1)})
	writeIt(t, c, write(file(5, 1), 0, "8 bytes."), ask{op: 2, round: 3, key: block(file(5, 1), 0)}, stamp(0, 0))
	decide(t, c, create(other), ask{op: 3, round: 5, ballot: 2, key: at(0, 1)})
	readIt(t, c, read(file(5, 1), 0), ask{op: 4, round: 7, key: block(file(5, 1), 0)}, stamp(1, 5), "8 bytes.")
	readIt(t, c, read(file(9, 1), 1<<20-1), ask{op: 5, round: 8, key: block(file(9, 1), 1<<20-1)}, stamp(4, 4), "fourfour")
	decide(t, c, list(1), ask{op: 6, round: 9, ballot: 3, key: at(1, 1)})
	decide(t, c, lookup("plum"), ask{op: 7, round: 11, ballot: 4, key: at(3, 2)})
	mustReturn(t, c, api.Result{Entry: entry("plum", file(5, 1), 0), Instance: 2})
	writeIt(t, c, write(file(5, 1), 0, "bytes: 8"), ask{op: 8, round: 13, key: block(file(5, 1), 0)}, stamp(1, 5))
	decide(t, c, list(0), ask{op: 9, round: 15, ballot: 5, key: at(0, 2)})
	mustReturn(t, c, api.Result{List: []api.Entry{entry(other, file(5, 3), 0)}, Instance: 2})
	decide(t, c, list(3), ask{op: 10, round: 17, ballot: 6, key: at(3, 3)})
	mustReturn(t, c, api.Result{List: []api.Entry{entry("plum", file(5, 1), 0)}, Instance: 3})
	mustNews(t, c,
		item{at(3, 1), commandOf(create("plum"), 5, 1)}, item{at(0, 1), commandOf(create(other), 5, 3)}, item{at(1, 1), commandOf(list(1), 5, 6)},
		item{at(3, 2), commandOf(lookup("plum"), 5, 7)}, item{at(0, 2), commandOf(list(0), 5, 9)}, item{at(3, 3), commandOf(list(3), 5, 10)})
}

// What a bucket's chain was refused with, or has found on its way, moves the ballots and rounds of all that comes behind, in whatever bucket.
func TestP1403BallotsGoOn(t *testing.T) {
	c := fresh(t)
	a := ask{op: 1, round: 1, ballot: 1, key: at(3, 1)}
	mustInvoke(t, c, create("plum"), a.prepares(20, 30, 10)...)
	mustPassOver(t, c, a.nack(30, 40, 9))
	// It was noted, though the ballot that would be above it is never begun.
	x := commandOf(create("plum"), me, 1)
	mustStep(t, c, a.known(20, another), ask{1, 2, 41, at(3, 2)}.prepares(20, 30, 10)...)
	mustStep(t, c, ask{1, 2, 41, at(3, 2)}.known(20, x))
	mustReturn(t, c, api.Result{Entry: entry("plum", file(5, 1), 0), Instance: 2})
	decide(t, c, list(1), ask{2, 3, 42, at(1, 1)})
	b := ask{3, 5, 43, at(2, 1)}
	mustInvoke(t, c, list(2), b.prepares(10, 20, 30)...)
	mustPassOver(t, c, b.nack(30, 90, 9))
	mustTick(t, c, ask{3, 6, 91, at(2, 1)}.prepares(10, 20, 30)...)
	mustPassOver(t, c, ask{3, 6, 91, at(2, 1)}.nack(30, 95, 9))
	mustStep(t, c, ask{3, 6, 91, at(2, 1)}.known(20, commandOf(list(2), me, 3)))
	readIt(t, c, read(file(5, 1), 0), ask{4, 7, 0, block(file(5, 1), 0)}, stamp(1, 5), "8 bytes.")
	decide(t, c, create("plum"), ask{5, 8, 96, at(3, 3)})
	decide(t, c, list(1), ask{6, 10, 97, at(1, 2)})
}

// Whom packets name: the group of the bucket, of the block.
func TestP1403Groups(t *testing.T) {
	for number, group := range [][]int{{20, 30, 10}, {30, 10, 20}, {10, 20, 30}, {20, 30, 10}} {
		c := fresh(t)
		mustInvoke(t, c, list(number), ask{1, 1, 1, at(number, 1)}.prepares(group...)...)
		c = fresh(t)
		mustInvoke(t, c, create(nameIn(four(), number, 1)), ask{1, 1, 1, at(number, 1)}.prepares(group...)...)
	}
	for _, config := range []api.Config{seven(), least(), greatest()} {
		seen := map[int]int{}
		for index := range 200 {
			c := made(t, config, me)
			k := block(file(1+index%255, 1+index), index)
			group := groupOf(config, k)
			mustInvoke(t, c, read(file(k.A, k.B), k.C), ask{1, 1, 0, k}.queries(group...)...)
			seen[group[0]]++
		}
		if len(seen) < min(5, len(config.Servers)) {
			t.Errorf("too few groups to tell: %v", seen)
		}
	}
}

// Client ids at their edges, longest names, greatest numbers: the messages may be.
func TestP1403Greatest(t *testing.T) {
	long := string(make255())
	for _, config := range []api.Config{greatest(), least()} {
		for _, id := range []int{1, api.MaxId} {
			most := 1 << 20 * config.Block
			far := file(255, 1<<40)
			for _, o := range []api.Op{replace(long, far, far, most), create(long), setSize(long, far, most), read(far, 1<<20-1), write(far, 1<<20-1, string(make([]byte, config.Block)))} {
				w := newWatch(made(t, config, id))
				if l, err := w.Invoke(o); err != api.OK || len(l) != 2*config.F+1 {
					t.Errorf("%+v: %v, %v", o, l, err)
				}
				mustBeWatched(t, w)
			}
		}
	}
}

func make255() []byte {
	name := make([]byte, api.MaxName)
	for i := range name {
		name[i] = byte(255 - i%200)
	}
	return name
}
