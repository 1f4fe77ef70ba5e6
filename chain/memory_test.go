package chain_test

import (
	"runtime"
	"slices"
	"testing"
	"weak"

	"cairn/api"
	"cairn/chain"
)

// roomy has the same items, with others in its spare room.
func roomy[T any](list []T, spare T) []T {
	room := append(slices.Clone(list), spare, spare, spare)
	return room[:len(list)]
}

// spoil fills a list, its spare room too.
func spoil[T any](list []T, with T) {
	list = list[:cap(list)]
	for i := range list {
		list[i] = with
	}
}

var (
	junkEntry = entry("junk", 77, 77, 77)
	junkLast  = api.Last{Client: 77, Op: 77, Instance: 77, Err: 77}
)

func spoilBucket(b api.Bucket) {
	spoil(b.Entries, junkEntry)
	spoil(b.Lasts, junkLast)
}

func spoilMsgs(list []api.Msg) {
	spoil(list, api.Msg{Kind: 99, From: user(99), To: server(99), Round: 99, Stamp: stamp(99, 99), Command: y})
}

// roomyBucket has spare room behind both lists.
func roomyBucket(b api.Bucket) api.Bucket {
	return api.Bucket{Upto: b.Upto, Entries: roomy(b.Entries, junkEntry), Lasts: roomy(b.Lasts, junkLast)}
}

// whole is a bucket with its spare room, in memory of its own.
func whole(b api.Bucket) api.Bucket {
	return api.Bucket{Upto: b.Upto, Entries: slices.Clone(b.Entries[:cap(b.Entries)]), Lasts: slices.Clone(b.Lasts[:cap(b.Lasts)])}
}

// aLife is one of a chain, in which all that it may be asked comes; it ends with a CList.
func aLife() []call {
	take := func(m api.Msg) call { return call{what: "Take", msg: m} }
	a, b, c := start.second().anew(2), ask{4, 2, 12, round + 3}, ask{4, 6, 13, round + 4}
	l := ask{5, 8, 30, 40}
	return []call{
		{what: "Tick"}, {what: "Begin", command: x, ballot: first, round: round}, {what: "Tick"},
		take(start.promise(2)), take(start.holding(9, stamp(1, 9), y)), {what: "Tick"}, take(start.second().accepted(4)), take(start.second().accepted(2)),
		{what: "News"}, {what: "Tick"}, take(a.nack(9, 11, 9)), {what: "Tick"}, take(b.trimmed(4, aBucket(5))), {what: "Tick"},
		take(c.known(9, remove(3, 8, "rush"))), take(c.anew(7).known(2, x)), {what: "Tick"},
		{what: "Begin", command: list(client, 5), ballot: 30, round: 40}, take(l.known(4, list(client, 5))), {what: "News"}, {what: "Tick"},
	}
}

// The life goes where it should: the other tests lean on that.
func mustEndLife(t *testing.T, c machine) {
	t.Helper()
	mustEnd(t, c, api.Result{List: []api.Entry{entry("fig", 9, 1, 5), entry("plum", client, 4, 0)}, Instance: 8})
}

func TestP2GroupIsNeitherChangedNorKept(t *testing.T) {
	servers := roomy([]int{4, 4, 2, 9, 2}, 77)
	was := slices.Clone(servers[:cap(servers)])
	other := roomy(servers, 78)
	c, spoiled, want := chain.New(client, number, servers, room), chain.New(client, number, other, room), usual()
	for i, one := range aLife() {
		words := one.on(want)
		spoil(other, i)
		mustTell(t, "one whose group was written over", one.on(spoiled), words...)
		list := one.on(c)
		mustTell(t, "the other one", list, words...)
		spoilMsgs(list)
		if !slices.Equal(servers[:cap(servers)], was) {
			t.Fatalf("what was handed in is %v now, its spare room too; it was %v", servers[:cap(servers)], was)
		}
		mustBe(t, spoiled, toldBy(want))
	}
	mustEndLife(t, c)
	mustEndLife(t, spoiled)
}

// Whatever a chain tells may be written over behind each call; it goes on as if nothing had been.
func TestP2WhatIsToldIsNewMemory(t *testing.T) {
	c, want := fresh(), usual()
	for _, one := range aLife() {
		list := one.on(c)
		mustTell(t, "a call", list, one.on(want)...)
		for range 2 {
			mustBe(t, c, toldBy(want))
			is := toldBy(c)
			spoilBucket(is.bucket)
			spoil(is.result.List, junkEntry)
			spoilMsgs(list)
		}
		if one.what != "News" {
			continue
		}
		if a, b := newsOf(c.News()), newsOf(want.News()); !slices.Equal(a, b) {
			t.Fatalf("News: %+v, not %+v", a, b)
		}
	}
	mustEndLife(t, c)
}

func TestP2TwoAnswersShareNothing(t *testing.T) {
	c := fresh()
	for _, one := range aLife() {
		one.on(c)
	}
	want := toldBy(c)
	wantBucket := whole(want.bucket)
	a, b := toldBy(c), toldBy(c)
	spoilBucket(a.bucket)
	spoil(a.result.List, junkEntry)
	mustBe(t, c, want)
	if !sameTold(b, want) || !sameBucket(whole(want.bucket), wantBucket) {
		t.Fatalf("two answers share memory: %+v, %+v", b, want)
	}
	b.bucket.Entries = append(b.bucket.Entries, entry("zinc", 1, 1, 1))
	b.bucket.Lasts = append(b.bucket.Lasts, junkLast)
	b.result.List = append(b.result.List, junkEntry)
	mustBe(t, c, want)
	c.Begin(create(client, 6, "ash"), 50, 60)
	c.Take(ask{6, 9, 50, 60}.known(2, create(client, 6, "ash")))
	if !sameBucket(whole(want.bucket), wantBucket) || !slices.Equal(want.result.List, want.bucket.Entries) {
		t.Fatalf("what was told changes with the chain: %+v", want)
	}
}

// A message may be written over behind the call; ahead of that it must stand as it was, its spare room too.
func TestP2BucketOfAMessageIsNeitherChangedNorKept(t *testing.T) {
	for _, of := range []api.Bucket{aBucket(5), with(aBucket(5), last(4, 3, api.OK, file(7, 4), 0)), with(aBucket(5), last(3, 3, api.OK, file(7, 3), 0)), {Upto: 5}} {
		b := roomyBucket(of)
		was := whole(b)
		c, want := begun(), usual()
		want.Begin(x, first, round)
		mustTell(t, "MBucket", c.Take(start.trimmed(2, b)), want.Take(start.trimmed(2, of))...)
		spoilBucket(c.Bucket())
		c.Take(start.anew(6).known(2, create(3, 9, "ash")))
		c.Take(start.anew(6).anew(7).known(2, remove(2, 9, "fig")))
		if !sameBucket(whole(b), was) {
			t.Fatalf("what was handed in is %+v now, its spare room too; it was %+v", whole(b), was)
		}
		c = begun()
		c.Take(start.trimmed(2, b))
		spoilBucket(b)
		mustBe(t, c, toldBy(want))
	}
}

// No list and an empty one are the same.
func TestP2NoListAndEmptyOnes(t *testing.T) {
	for _, entries := range [][]api.Entry{nil, {}, roomy([]api.Entry{}, junkEntry)} {
		for _, lasts := range [][]api.Last{nil, {}, roomy([]api.Last{}, junkLast)} {
			b := api.Bucket{Upto: 5, Entries: entries, Lasts: lasts}
			was := whole(b)
			c := begun()
			mustTell(t, "MBucket", c.Take(start.trimmed(2, b)), start.anew(6).prepares()...)
			told := c.Bucket()
			told.Entries, told.Lasts = append(told.Entries, junkEntry), append(told.Lasts, junkLast)
			mustBe(t, c, told5())
			c.Take(start.anew(6).known(2, x))
			if !sameBucket(whole(b), was) {
				t.Fatalf("%+v, not %+v", whole(b), was)
			}
		}
	}
	for _, servers := range [][]int{nil, {}, roomy([]int{}, 4)} {
		c := chain.New(client, number, servers, room)
		mustTell(t, "Begin to nobody", c.Begin(x, first, round))
		mustPassOver(t, c, start.promise(4), start.known(4, y))
		mustGoOn(t, c, start)
	}
}

// told5 is what a chain tells behind a bucket of nothing, up to 5.
func told5() told { return told{bucket: api.Bucket{Upto: 5}, ballot: first + 1, round: round + 1} }

// Messages that are passed over, or that no list of is looked at, stand as they were.
func TestP2MessagesAreNotChanged(t *testing.T) {
	for kind := -1; kind <= 23; kind++ {
		block, commands, b := roomy([]byte("block"), '!'), roomy([]api.Command{y}, x), roomyBucket(aBucket(5))
		wasBlock, wasCommands, was := slices.Clone(block[:cap(block)]), slices.Clone(commands[:cap(commands)]), whole(b)
		for _, of := range []*chain.Chain{fresh(), begun(), laying()} {
			for _, id := range []int{4, 2, 9, 1} {
				for _, a := range []ask{start, start.second()} {
					m := a.answer(kind, id)
					m.Stamp, m.Block, m.Commands, m.Bucket, m.Command = stamp(first, client), block, commands, b, y
					spoilMsgs(of.Take(m))
					spoilMsgs(of.Tick())
					spoilBucket(of.Bucket())
				}
			}
		}
		if !slices.Equal(block[:cap(block)], wasBlock) || !slices.Equal(commands[:cap(commands)], wasCommands) || !sameBucket(whole(b), was) {
			t.Fatalf("a message of kind %d is changed", kind)
		}
	}
}

type heavy struct {
	group    [1 << 12]int
	entries  [1 << 8]api.Entry
	lasts    [1 << 8]api.Last
	block    [1 << 12]byte
	commands [1 << 8]api.Command
}

// takeHeavy hands in a message with lists that nobody else has.
func takeHeavy(c machine, m api.Msg) weak.Pointer[heavy] {
	h := new(heavy)
	m.Bucket.Entries, m.Bucket.Lasts = h.entries[:1], h.lasts[:1]
	m.Block, m.Commands = h.block[:1], h.commands[:1]
	c.Take(m)
	return weak.Make(h)
}

func heavyGroup() (machine, weak.Pointer[heavy]) {
	h := new(heavy)
	copy(h.group[:], group())
	c := chain.New(client, number, h.group[:3], room)
	c.Begin(x, first, round)
	return c, weak.Make(h)
}

// Of what is handed in nothing is kept, not even to be held without use.
func TestP2NothingIsHeld(t *testing.T) {
	c, ofGroup := heavyGroup()
	a := start.anew(6)
	held := []weak.Pointer[heavy]{
		ofGroup, takeHeavy(c, start.promise(4)), takeHeavy(c, start.nack(2, 2, 2)),
		takeHeavy(c, start.trimmed(9, api.Bucket{Upto: 5})), takeHeavy(c, a.promise(4)), takeHeavy(c, a.promise(2)), takeHeavy(c, a.second().accepted(2)),
	}
	runtime.GC()
	runtime.GC()
	for i, h := range held {
		if h.Value() != nil {
			t.Errorf("what was handed in is held: number %d", i)
		}
	}
	if b := c.Bucket(); b.Upto != 5 || len(b.Entries) != 1 || len(b.Lasts) != 1 {
		t.Errorf("%+v", b)
	}
	mustTell(t, "Take", c.Take(a.second().accepted(9)), a.second().learned(x)...)
	runtime.KeepAlive(c)
}
