package bucket_test

import (
	"math/rand"
	"slices"
	"testing"

	"cairn/api"
	"cairn/bucket"
)

// wrongBuckets may not be: entries or Lasts out of their order or twice, names, files, sizes, numbers beyond their ends.
func wrongBuckets() []api.Bucket {
	r := rand.New(rand.NewSource(1))
	list := []api.Bucket{
		{Upto: -1}, {Upto: -1 << 63}, {Upto: api.MaxInstance + 1}, {Entries: many().Entries}, {Lasts: many().Lasts},
		{Upto: 9, Entries: []api.Entry{{}, {}}, Lasts: []api.Last{{}, {}}},
		{Upto: 9, Entries: []api.Entry{entry("plum", 1, 1, 1), entry("plum", 2, 2, 2), entry("plum", 3, 3, 3)}},
		{Upto: 9, Entries: []api.Entry{entry("plum", 1, 1, 1), entry("fig", 2, 2, 2)}},
		{Upto: 9, Entries: []api.Entry{entry("plum", -1, 0, -5), entry("", 0, 0, 1<<62)}},
		{Upto: 9, Lasts: []api.Last{last(9, 1, 1, 0, file(1, 1), 0), last(4, 1, 2, 0, file(1, 1), 0)}},
		{Upto: 9, Lasts: []api.Last{last(4, 1, 1, 0, file(1, 1), 0), last(4, 2, 2, 0, file(1, 1), 0)}},
		{Upto: 9, Lasts: []api.Last{last(-4, -1, 99, -3, file(0, 1), -1), last(1<<62, 2, 2, 0, file(1, 1), 0)}},
	}
	for range 60 {
		b := many()
		b.Entries = append(b.Entries, b.Entries[r.Intn(7)])
		b.Lasts = append(b.Lasts, b.Lasts[r.Intn(4)])
		r.Shuffle(len(b.Entries), func(i, j int) { b.Entries[i], b.Entries[j] = b.Entries[j], b.Entries[i] })
		r.Shuffle(len(b.Lasts), func(i, j int) { b.Lasts[i], b.Lasts[j] = b.Lasts[j], b.Lasts[i] })
		list = append(list, b)
	}
	return list
}

// wrongCommands may not be; some of them are refused, and the others are applied in some way.
func wrongCommands() []api.Command {
	var list []api.Command
	for _, n := range numbers() {
		for _, name := range []string{"", "plum", "fig", "a/b", "\x00"} {
			for kind := -1; kind < 9; kind++ {
				list = append(list,
					api.Command{Kind: kind, Client: 4, Op: 1, Name: name, File: file(n, n), New: file(n, 1), Size: n},
					api.Command{Kind: kind, Client: n, Op: 1, Name: name, File: file(1, 10), Size: n},
					api.Command{Kind: kind, Client: 4, Op: n, Name: name, File: file(3, 12), New: file(n, n), Size: n})
			}
		}
	}
	return list
}

func TestP1WhateverMayNotBe(t *testing.T) {
	for _, start := range append(buckets(), wrongBuckets()...) {
		b := roomyBucket(start)
		was := twin(whole(b))
		for _, c := range wrongCommands() {
			for _, room := range []int{-1 << 63, 0, 3, 1<<63 - 1} {
				got, a, _ := bucket.Apply(b, c, room)
				spoilAll(got, []api.Answer{a})
				got, answers, _ := bucket.Replay(b, room, c, c, list(4, 1), create(4, 1, "zz"))
				spoilAll(got, answers)
			}
		}
		for _, name := range append(manyNames(), "", "plu", "zz", "\xff\xff") {
			bucket.Find(b, name)
			for range bucket.Names(b, name) {
				spoil(slices.Collect(bucket.Names(b, name)), junkEntry)
			}
		}
		for _, n := range numbers() {
			bucket.Last(b, n)
		}
		if !alike(whole(b), was) {
			t.Fatalf("what was handed in is %+v now, its spare room too; it was %+v", whole(b), was)
		}
	}
}

// Found by halves: in a row of which the order is turned round, which may not be, a binary search goes the wrong way from the middle on. (What is answered there is no promise; but who goes over all of them would find them.)
func TestWaysBinarySearch(t *testing.T) {
	b := rowOf(101)
	slices.Reverse(b.Entries)
	slices.Reverse(b.Lasts)
	for i, e := range b.Entries {
		if i == 50 {
			continue
		}
		client := b.Lasts[i].Client
		if _, there := bucket.Find(b, e.Name); there {
			t.Fatalf("Find: the one at %d", i)
		}
		if _, there := bucket.Last(b, client); there {
			t.Fatalf("Last: the one at %d", i)
		}
		for _, c := range ofEachKind(client, 1, e.Name, e.File) {
			if got, a, _ := bucket.Apply(b, c, 300); c.Kind != api.CList && (a.Entry.File == e.File || c.Kind != api.CLookup && len(got.Lasts) != 102) {
				t.Fatalf("%+v, at %d: %+v, %d Lasts", c, i, a, len(got.Lasts))
			}
		}
	}
}
