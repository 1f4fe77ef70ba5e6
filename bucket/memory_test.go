package bucket_test

import (
	"runtime"
	"slices"
	"testing"
	"weak"

	"cairn/api"
	"cairn/bucket"
)

// junk is what stands in spare room, and what lists are filled with to see who shares them.
var (
	junkEntry   = entry("junk", 77, 77, 77)
	junkLast    = last(77, 77, 77, 77, file(77, 77), 77)
	junkCommand = create(77, 77, "junk")
)

// roomy has the same items, with others in its spare room.
func roomy[T any](list []T, spare T) []T {
	room := append(slices.Clone(list), spare, spare, spare)
	return room[:len(list)]
}

// spoil fills a list, its spare room too.
func spoil[T any](list []T, with T) {
	list = list[:cap(list)]
	for i := range list {
		list[i] = with
	}
}

// roomyBucket has spare room behind both lists.
func roomyBucket(b api.Bucket) api.Bucket {
	return api.Bucket{Upto: b.Upto, Entries: roomy(b.Entries, junkEntry), Lasts: roomy(b.Lasts, junkLast)}
}

func spoilBucket(b api.Bucket) {
	spoil(b.Entries, junkEntry)
	spoil(b.Lasts, junkLast)
}

// whole is a bucket with its spare room.
func whole(b api.Bucket) api.Bucket {
	return api.Bucket{Upto: b.Upto, Entries: b.Entries[:cap(b.Entries)], Lasts: b.Lasts[:cap(b.Lasts)]}
}

// asks are rows of commands that come to each place at which a list may be changed.
func asks() [][]api.Command {
	var all [][]api.Command
	for _, c := range commands() {
		all = append(all, []api.Command{c})
	}
	for _, name := range []string{"a", "plu", "plum", "\xff\xff"} {
		all = append(all, append(ofEachKind(4, 9, name, file(4, 1)), list(9, 9)))
	}
	return append(all, nil, []api.Command{list(1, 1), create(3, 1, "a"), list(3, 2), remove(3, 3, "a"), list(1, 1)}, []api.Command{create(1, 1, "b"), {}})
}

func TestP2NothingHandedInIsChanged(t *testing.T) {
	for _, start := range buckets()[:4] {
		b := roomyBucket(start)
		was := twin(whole(b))
		for _, ask := range asks() {
			row := roomy(ask, junkCommand)
			wasRow := slices.Clone(row[:cap(row)])
			for _, room := range []int{1, 8} {
				got, answers, _ := bucket.Replay(b, room, row...)
				spoilAll(got, answers)
				for _, c := range row {
					got, a, _ := bucket.Apply(b, c, room)
					spoilAll(got, []api.Answer{a})
					bucket.Find(b, c.Name)
					bucket.Last(b, c.Client)
					spoil(slices.Collect(bucket.Names(b, c.Name)), junkEntry)
				}
			}
			if !alike(whole(b), was) || !slices.Equal(row[:cap(row)], wasRow) {
				t.Fatalf("%+v: what was handed in is %+v, %+v now, its spare room too; it was %+v, %+v", ask, whole(b), row[:cap(row)], was, wasRow)
			}
		}
	}
}

func spoilAll(b api.Bucket, answers []api.Answer) {
	spoilBucket(b)
	for _, a := range answers {
		spoil(a.List, junkEntry)
	}
	spoil(answers, api.Answer{Err: 77})
}

// What becomes of what was handed in is not seen in what was told.
func TestP2NothingHandedInIsKept(t *testing.T) {
	for _, start := range buckets()[:4] {
		for _, ask := range asks() {
			want, answers, err := bucket.Replay(twin(start), 8, slices.Clone(ask)...)
			b, row := roomyBucket(start), roomy(ask, junkCommand)
			got, a, e := bucket.Replay(b, 8, row...)
			spoilBucket(b)
			spoil(row, junkCommand)
			if e != err || !alike(got, want) || !slices.EqualFunc(a, answers, alikeAnswers) {
				t.Fatalf("Replay(.., %+v): %+v, %+v; it was %+v, %+v", ask, got, a, want, answers)
			}
			if len(ask) != 1 {
				continue
			}
			b = roomyBucket(start)
			got, one, _ := bucket.Apply(b, ask[0], 8)
			spoilBucket(b)
			if !alike(got, want) || !alikeAnswers(one, answers[0]) {
				t.Fatalf("Apply(.., %+v): %+v, %+v; it was %+v, %+v", ask[0], got, one, want, answers[0])
			}
		}
	}
}

// No two lists of one answer share memory: each is filled in turn, and the others stay.
func TestP2NoTwoListsShare(t *testing.T) {
	for _, start := range buckets()[:4] {
		for _, ask := range asks() {
			want, answers, _ := bucket.Replay(start, 8, ask...)
			for i := range len(answers) + 2 {
				got, a, _ := bucket.Replay(start, 8, ask...)
				w, wa := twin(want), slices.Clone(answers)
				switch {
				case i == len(answers):
					spoil(got.Entries, junkEntry)
					spoil(w.Entries, junkEntry)
				case i == len(answers)+1:
					spoil(got.Lasts, junkLast)
					spoil(w.Lasts, junkLast)
				default:
					spoil(a[i].List, junkEntry)
					wa[i].List = slices.Repeat([]api.Entry{junkEntry}, len(wa[i].List))
				}
				if !alike(got, w) || !slices.EqualFunc(a, wa, alikeAnswers) {
					t.Fatalf("Replay(.., %+v): list %d is shared: %+v, %+v", ask, i, got, a)
				}
			}
		}
	}
	b := many()
	got, a, _ := bucket.Apply(b, list(4, 1), 8)
	spoil(a.List, junkEntry)
	if !slices.Equal(got.Entries, b.Entries) {
		t.Fatalf("a List shares memory with the bucket beside it: %+v", got.Entries)
	}
}

// What grows in the spare room of one told bucket is not seen in another one.
func TestP2ToldBucketsGrowApart(t *testing.T) {
	b, _ := mustReplay(t, api.Bucket{}, 9, create(1, 1, "b"), create(1, 2, "d"), create(1, 3, "f"))
	x, _, _ := bucket.Apply(b, create(2, 1, "a"), 9)
	y, _, _ := bucket.Apply(b, create(3, 1, "e"), 9)
	z, _, _ := bucket.Replay(b, 9)
	x.Entries = append(x.Entries, junkEntry)
	z.Entries = append(z.Entries, entry("z", 1, 1, 1))
	mustName(t, b, "", "b", "d", "f")
	mustName(t, x, "", "a", "b", "d", "f", "junk")
	mustName(t, y, "", "b", "d", "e", "f")
	mustName(t, z, "", "b", "d", "f", "z")
}

func TestP2NoListAndEmptyOnes(t *testing.T) {
	for _, c := range commands() {
		var got [2]api.Bucket
		var a [2]api.Answer
		got[0], a[0], _ = bucket.Apply(api.Bucket{Upto: 5}, c, 1)
		got[1], a[1], _ = bucket.Apply(api.Bucket{Upto: 5, Entries: []api.Entry{}, Lasts: []api.Last{}}, c, 1)
		if !alike(got[0], got[1]) || !alikeAnswers(a[0], a[1]) {
			t.Fatalf("%+v: %+v of no lists, %+v of empty ones", c, got[0], got[1])
		}
	}
}

// held points at the lists of a bucket, their room too, without holding them.
func held(b api.Bucket) (weak.Pointer[api.Entry], weak.Pointer[api.Last]) {
	return weak.Make(&b.Entries[:1][0]), weak.Make(&b.Lasts[:1][0])
}

// roomOnly is a bucket of empty lists that have room.
func roomOnly() api.Bucket {
	return api.Bucket{Upto: 5, Entries: make([]api.Entry, 0, 300), Lasts: make([]api.Last, 0, 300)}
}

// The memory of what is handed in is not held by what is told, not where it is empty either.
func TestP2NothingIsHeld(t *testing.T) {
	for _, made := range []func() api.Bucket{roomOnly, func() api.Bucket { return twin(many()) }} {
		for _, c := range []api.Command{create(4, 1, "z"), remove(4, 1, "fig"), list(4, 1), lookup(4, 1, "fig"), grow(4, 1, "fig", file(1, 10), 3)} {
			mustNotHold(t, made, func(b api.Bucket) any { x, a, _ := bucket.Apply(b, c, 9); return []any{x, a} })
			mustNotHold(t, made, func(b api.Bucket) any { x, a, _ := bucket.Replay(b, 9, c, c); return []any{x, a} })
			mustNotHold(t, made, func(b api.Bucket) any { x, a, _ := bucket.Replay(b, 9); return []any{x, a} })
		}
		for _, begins := range []string{"", "p", "zz"} {
			mustNotHold(t, made, func(b api.Bucket) any { return bucket.Names(b, begins) })
		}
	}
}

func mustNotHold(t *testing.T, made func() api.Bucket, call func(api.Bucket) any) {
	b := made()
	entries, lasts := held(b)
	told := call(b)
	b = api.Bucket{}
	runtime.GC()
	if entries.Value() != nil || lasts.Value() != nil {
		t.Fatalf("the lists of what was handed in are still held by %+v", told)
	}
	runtime.KeepAlive(told)
}

// Entries that are removed are not held by the spare room of what is told.
func TestP2RemovedIsGone(t *testing.T) {
	b, _ := mustReplay(t, many(), 9, remove(1, 1, "pm"), remove(1, 2, "\xff"), remove(1, 3, "fig"))
	for _, e := range b.Entries[len(b.Entries):cap(b.Entries)] {
		if e != (api.Entry{}) {
			t.Fatalf("%+v is in the spare room", e)
		}
	}
}
