package proposer_test

import (
	"runtime"
	"slices"
	"testing"
	"weak"

	"cairn/api"
	"cairn/proposer"
)

// roomy has the same items, with others in its spare room.
func roomy[T any](list []T, spare T) []T {
	room := append(slices.Clone(list), spare, spare, spare)
	return room[:len(list)]
}

// spoil fills a list, its spare room too.
func spoil[T any](list []T, with T) {
	list = list[:cap(list)]
	for i := range list {
		list[i] = with
	}
}

func spoilMsgs(list []api.Msg) {
	spoil(list, api.Msg{Kind: 99, From: user(99), To: server(99), Round: 99, Stamp: stamp(99, 99), Command: z})
}

func mustStand[T comparable](t *testing.T, list, want []T) {
	t.Helper()
	if !slices.Equal(list[:cap(list)], want) {
		t.Fatalf("what was handed in is %v now, its spare room too; it was %v", list[:cap(list)], want)
	}
}

// life is one of a proposer, in which all that it may be asked comes.
func life() []step {
	return []step{
		{call: "Tick"}, beginning, {call: "Tick"}, {"Take", promise(9, stamp(1, 1), y)}, {call: "Tick"}, {"Take", nack(2, 4, 1)},
		{"Take", promise(4, stamp(0, 0), none)}, {call: "Tick"}, {"Take", accepted(9)}, {"Take", inRound(nack(4, 6, 1), round+1)}, {call: "Tick"},
		{"Take", inRound(atBallot(promise(4, stamp(0, 0), none), stamp(7, client)), round+2)},
		{"Take", inRound(atBallot(promise(2, stamp(3, 7), y), stamp(7, client)), round+2)}, {call: "Tick"},
		{"Take", inRound(atBallot(accepted(4), stamp(7, client)), round+3)},
		{"Take", inRound(atBallot(accepted(9), stamp(7, client)), round+3)}, {call: "Tick"}, beginning,
	}
}

func TestP2GroupIsNeitherChangedNorKept(t *testing.T) {
	servers := roomy([]int{4, 4, 2, 9, 2}, 77)
	was := slices.Clone(servers[:cap(servers)])
	other := roomy(servers, 78)
	p, spoiled, want := proposer.New(client, op, key, servers, x, first, round), proposer.New(client, op, key, other, x, first, round), usual().start()
	spoil(other, 1)
	for i, s := range life() {
		words := s.on(want)
		mustTell(t, "one whose group was written over", s.on(spoiled), words...)
		list := s.on(p)
		mustTell(t, "the other one", list, words...)
		mustStand(t, servers, was)
		spoilMsgs(list)
		mustStand(t, servers, was)
		spoil(other, i)
		mustBe(t, spoiled, toldBy(want))
	}
	mustDecide(t, p, y, 7, round+3)
}

// What a proposer tells may be written over; it tells the same once more.
func TestP2MessagesToldAreNewMemory(t *testing.T) {
	p, want := fresh(), usual().start()
	for _, s := range life() {
		list := s.on(p)
		mustTell(t, "a call", list, s.on(want)...)
		if want.refused() { // a tick would not tell the same once more
			spoilMsgs(list)
			continue
		}
		again := p.Tick()
		mustTell(t, "Tick", again, want.Tick()...)
		spoilMsgs(list)
		mustTell(t, "the Tick before", again, want.Tick()...)
		p.Tick()
		spoilMsgs(again)
		mustTell(t, "Tick", p.Tick(), want.Tick()...)
		mustBe(t, p, toldBy(want))
	}
	mustDecide(t, p, y, 7, round+3)
}

// A message may be written over behind the call; ahead of that it must stand as it was.
func TestP2BucketIsNeitherChangedNorKept(t *testing.T) {
	b := aBucket()
	b.Entries, b.Lasts = roomy(b.Entries, api.Entry{Name: "spare"}), roomy(b.Lasts, api.Last{Client: 77})
	entries, lasts := slices.Clone(b.Entries[:cap(b.Entries)]), slices.Clone(b.Lasts[:cap(b.Lasts)])
	p := begun()
	mustPassOver(t, p, trimmed(4, b))
	mustStand(t, b.Entries, entries)
	mustStand(t, b.Lasts, lasts)
	told, _ := p.Trimmed()
	spoil(told.Entries, api.Entry{Name: "#"})
	spoil(told.Lasts, api.Last{Client: 1})
	mustStand(t, b.Entries, entries)
	mustStand(t, b.Lasts, lasts)
	spoil(b.Entries, api.Entry{Name: "%"})
	spoil(b.Lasts, api.Last{Client: 2})
	mustTrim(t, p, aBucket(), first, round)
}

func TestP2BucketToldIsNewMemory(t *testing.T) {
	p := begun()
	mustPassOver(t, p, trimmed(4, aBucket()))
	a, _ := p.Trimmed()
	b, _ := p.Trimmed()
	spoil(a.Entries, api.Entry{Name: "#"})
	spoil(a.Lasts, api.Last{Client: 1})
	if !sameBucket(b, aBucket()) {
		t.Fatalf("two answers of Trimmed share memory: %+v", b)
	}
	b.Entries, b.Lasts = append(b.Entries, api.Entry{Name: "more"}), append(b.Lasts, api.Last{Client: 2})
	spoil(b.Entries, api.Entry{Name: "%"})
	spoil(b.Lasts, api.Last{Client: 3})
	mustTrim(t, p, aBucket(), first, round)
}

// An empty list with spare room is no way into what was handed in either; and it is the same as none.
func TestP2NoListAndEmptyOnes(t *testing.T) {
	for _, entries := range [][]api.Entry{nil, {}, roomy([]api.Entry{}, api.Entry{Name: "spare"})} {
		for _, lasts := range [][]api.Last{nil, {}, roomy([]api.Last{}, api.Last{Client: 77})} {
			wasEntries, wasLasts := slices.Clone(entries[:cap(entries)]), slices.Clone(lasts[:cap(lasts)])
			p := begun()
			mustPassOver(t, p, trimmed(4, api.Bucket{Upto: 6, Entries: entries, Lasts: lasts}))
			b, _ := p.Trimmed()
			b.Entries, b.Lasts = append(b.Entries, api.Entry{Name: "more"}), append(b.Lasts, api.Last{Client: 1})
			mustStand(t, entries, wasEntries)
			mustStand(t, lasts, wasLasts)
			mustTrim(t, p, api.Bucket{Upto: 6}, first, round)
		}
	}
}

// Messages that are passed over, or that no list of is looked at, stand as they were.
func TestP2MessagesAreNotChanged(t *testing.T) {
	for kind := -1; kind <= 23; kind++ {
		block, commands := roomy([]byte("block"), '!'), roomy([]api.Command{y}, z)
		entries, lasts := roomy(aBucket().Entries, api.Entry{Name: "spare"}), roomy(aBucket().Lasts, api.Last{Client: 77})
		wasBlock, wasCommands := slices.Clone(block[:cap(block)]), slices.Clone(commands[:cap(commands)])
		wasEntries, wasLasts := slices.Clone(entries[:cap(entries)]), slices.Clone(lasts[:cap(lasts)])
		for _, in := range []int{round, round + 1} {
			p := map[int]*proposer.Proposer{round: begun(), round + 1: laying()}[in]
			for _, id := range []int{4, 2, 9, 1} {
				m := inRound(answer(kind, id, mine()), in)
				m.Block, m.Commands, m.Bucket = block, commands, api.Bucket{Upto: 6, Entries: entries, Lasts: lasts}
				spoilMsgs(p.Take(m))
				spoilMsgs(p.Tick())
			}
			mustStand(t, block, wasBlock)
			mustStand(t, commands, wasCommands)
			mustStand(t, entries, wasEntries)
			mustStand(t, lasts, wasLasts)
		}
	}
}

type heavy struct {
	group    [1 << 12]int
	entries  [1 << 8]api.Entry
	lasts    [1 << 8]api.Last
	block    [1 << 12]byte
	commands [1 << 8]api.Command
}

// takeHeavy hands in a message with lists that nobody else has, its bucket's so long.
func takeHeavy(p machine, m api.Msg, entries, lasts int) weak.Pointer[heavy] {
	h := new(heavy)
	m.Bucket = api.Bucket{Upto: 6, Entries: h.entries[:entries], Lasts: h.lasts[:lasts]}
	m.Block, m.Commands = h.block[:1], h.commands[:1]
	p.Take(m)
	return weak.Make(h)
}

func heavyGroup() (machine, weak.Pointer[heavy]) {
	h := new(heavy)
	copy(h.group[:], group())
	p := proposer.New(client, op, key, h.group[:3], x, first, round)
	p.Begin()
	return p, weak.Make(h)
}

// Of what is handed in nothing is kept, not even to be held without use.
func TestP2NothingIsHeld(t *testing.T) {
	p, ofGroup := heavyGroup()
	held := []weak.Pointer[heavy]{
		ofGroup, takeHeavy(p, promise(4, stamp(1, 1), y), 1, 1), takeHeavy(p, nack(2, 8, 1), 1, 1), takeHeavy(p, promise(1, stamp(1, 1), y), 1, 1),
	}
	var trims []machine
	for _, n := range [][2]int{{0, 0}, {0, 1}, {1, 0}, {1, 1}} {
		trims = append(trims, begun())
		held = append(held, takeHeavy(trims[len(trims)-1], trimmed(4, api.Bucket{}), n[0], n[1]))
	}
	runtime.GC()
	runtime.GC()
	for i, h := range held {
		if h.Value() != nil {
			t.Errorf("what was handed in is held: number %d", i)
		}
	}
	mustTell(t, "Tick", p.Tick(), prepares(round+1, stamp(9, client), 4, 2, 9)...)
	for i, p := range trims {
		if b, ok := p.Trimmed(); !ok || len(b.Entries) != i/2 || len(b.Lasts) != i%2 {
			t.Errorf("Trimmed tells %v, %v", b, ok)
		}
	}
	runtime.KeepAlive(p)
	runtime.KeepAlive(trims)
}

// Two proposers in turns, of one client and one group, do not touch each other.
func TestP7TwoProposersInTurns(t *testing.T) {
	servers := group()
	a, b := proposer.New(client, op, key, servers, x, first, round), proposer.New(client, op, key, servers, z, first, round)
	mustTell(t, "Begin", a.Begin(), prepares(round, mine(), 4, 2, 9)...)
	mustTell(t, "Tick", b.Tick())
	mustPassOver(t, a, promise(2, stamp(0, 0), none))
	mustTell(t, "Begin", b.Begin(), prepares(round, mine(), 4, 2, 9)...)
	mustPassOver(t, b, nack(9, 8, 1))
	mustTell(t, "the first one's Take", a.Take(promise(4, stamp(0, 0), none)), accepts(round+1, mine(), x, 4, 2, 9)...)
	mustTell(t, "the second one's Tick", b.Tick(), prepares(round+1, stamp(9, client), 4, 2, 9)...)
	mustGoOn(t, a, first, round+1)
	mustPassOver(t, a, accepted(4))
	mustPassOver(t, b, inRound(atBallot(promise(2, stamp(0, 0), none), stamp(9, client)), round+1))
	mustTell(t, "the second one's Take", b.Take(inRound(atBallot(promise(9, stamp(2, 9), y), stamp(9, client)), round+1)), accepts(round+2, stamp(9, client), y, 4, 2, 9)...)
	mustTell(t, "the first one's Take", a.Take(accepted(9)), learned(round+1, x, 4, 2, 9)...)
	mustDecide(t, a, x, first, round+1)
	mustGoOn(t, b, 9, round+2)
	mustTell(t, "the second one's Tick", b.Tick(), accepts(round+2, stamp(9, client), y, 4, 2, 9)...)
}
