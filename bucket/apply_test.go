package bucket_test

import (
	"fmt"
	"math"
	"strings"
	"testing"

	"cairn/api"
	"cairn/bucket"
)

func TestP1001NoCommand(t *testing.T) {
	all := append(buckets(), api.Bucket{Upto: api.MaxInstance}, api.Bucket{Upto: math.MaxInt}, api.Bucket{Upto: -5})
	for _, b := range all {
		for _, room := range []int{math.MinInt, -1, 0, 1, 7, 8, math.MaxInt} {
			for _, kind := range []int{math.MinInt, -7, -1, 0, 8, 9, 1<<32 + 1, math.MaxInt} {
				mustRefuse(t, b, api.Command{Kind: kind, Client: 4, Op: 1, Name: "plum"}, room, api.ErrCommand)
			}
			for _, client := range []int{math.MinInt, -4, -1, 0, api.MaxId + 1, 1<<32 + 4, math.MaxInt} {
				for _, c := range ofEachKind(client, 1, "plum", file(4, 1)) {
					mustRefuse(t, b, c, room, api.ErrCommand)
				}
			}
			for _, op := range []int{math.MinInt, -1, 0, api.MaxNum + 1, math.MaxInt} {
				for _, c := range ofEachKind(4, op, "plum", file(4, 1)) {
					mustRefuse(t, b, c, room, api.ErrCommand)
				}
			}
		}
		mustRefuse(t, b, api.Command{}, 2, api.ErrCommand)
	}
}

func TestP1001Worn(t *testing.T) {
	for _, b := range buckets() {
		for _, upto := range []int{api.MaxInstance, api.MaxInstance + 1, math.MaxInt} {
			b.Upto = upto
			for _, room := range []int{-1, 0, 7, 100} {
				for _, c := range ofEachKind(4, 1, "plum", file(4, 1)) {
					mustRefuse(t, b, c, room, api.ErrWorn)
				}
			}
		}
	}
}

// Ops and clients at their ends are none of what is refused, nor is the last instance.
func TestP1001Edges(t *testing.T) {
	for _, client := range []int{1, api.MaxId} {
		for _, op := range []int{1, api.MaxNum} {
			b := mustApply(t, api.Bucket{Upto: api.MaxInstance - 1}, create(client, op, "fig"), 1,
				api.Bucket{Upto: api.MaxInstance, Entries: []api.Entry{entry("fig", client, op, 0)}, Lasts: []api.Last{last(client, op, api.MaxInstance, api.OK, file(client, op), 0)}},
				api.Answer{Entry: entry("fig", client, op, 0)})
			mustRefuse(t, b, lookup(client, op, "fig"), 1, api.ErrWorn)
			mustRefuse(t, b, lookup(client, 0, "fig"), 1, api.ErrCommand)
			for _, c := range ofEachKind(client, op, "fig", file(4, 1)) {
				if _, _, err := bucket.Apply(many(), c, 9); err != api.OK {
					t.Fatalf("%+v: %v", c, err)
				}
			}
		}
	}
}

// The errors of P1001 hold of whatever else may not be: it is no reason for a refusal.
func TestP1001NothingElseIsRefused(t *testing.T) {
	odd := []api.Command{
		create(4, 1, ""), create(4, 1, "a/b"), create(4, 1, "\x00"), create(4, 1, strings.Repeat("x", 300)),
		{Kind: api.CCreate, Client: 4, Op: 1, Name: "fig", File: file(1, 1), New: file(2, 2), Size: 3},
		{Kind: api.CList, Client: 4, Op: 1, Name: "fig", Size: -1},
		setSize(4, 1, "fig", file(0, 0), -1), grow(4, 1, "fig", file(-1, 999), math.MaxInt), replace(4, 1, "fig", file(1, 10), file(0, 0), math.MinInt),
	}
	for _, b := range append(buckets(), wrongBuckets()...) {
		for _, c := range odd {
			want := api.OK
			if b.Upto >= api.MaxInstance {
				want = api.ErrWorn
			}
			if _, _, err := bucket.Apply(b, c, 5); err != want {
				t.Fatalf("Apply(%+v, %+v): %v; want %v", b, c, err, want)
			}
			if _, _, err := bucket.Replay(b, 5, c); err != want {
				t.Fatalf("Replay(%+v, %+v): %v; want %v", b, c, err, want)
			}
		}
	}
}

func TestP1002CreateOnNone(t *testing.T) {
	mustApply(t, api.Bucket{}, create(4, 1, "plum"), 2,
		api.Bucket{Upto: 1, Entries: []api.Entry{entry("plum", 4, 1, 0)}, Lasts: []api.Last{last(4, 1, 1, api.OK, file(4, 1), 0)}},
		api.Answer{Entry: entry("plum", 4, 1, 0)})
}

func TestP1002CreateOnOne(t *testing.T) {
	plum, last4 := entry("plum", 4, 1, 50), last(4, 1, 9, api.OK, file(4, 1), 0)
	for _, x := range []struct {
		name string
		want []api.Entry
	}{
		{"fig", []api.Entry{entry("fig", 5, 2, 0), plum}},
		{"plu", []api.Entry{entry("plu", 5, 2, 0), plum}},
		{"plums", []api.Entry{plum, entry("plums", 5, 2, 0)}},
		{"z", []api.Entry{plum, entry("z", 5, 2, 0)}},
		{"\xe9", []api.Entry{plum, entry("\xe9", 5, 2, 0)}},
	} {
		mustApply(t, one(), create(5, 2, x.name), 2,
			api.Bucket{Upto: 10, Entries: x.want, Lasts: []api.Last{last4, last(5, 2, 10, api.OK, file(5, 2), 0)}},
			api.Answer{Entry: entry(x.name, 5, 2, 0)})
	}
}

// Bytewise: a name that another begins with stands ahead of that, and bytes above 127 stand behind all letters.
func TestP1002CreateOnMany(t *testing.T) {
	for _, x := range []struct {
		name string
		at   int
	}{
		{"\x01", 0}, {"Plum", 0}, {"fi", 0}, {"fig ", 1}, {"figs", 1}, {"o", 1}, {"pl", 2}, {"plu", 2}, {"plum\x01", 3}, {"plumr\xff", 3}, {"plumsy", 4}, {"plun", 4},
		{"pm\x01", 5}, {"q", 5}, {"\x7f", 5}, {"\x80", 5}, {"\x80A", 5}, {"\x80a\x01", 6}, {"\x80b", 6}, {"\xfe", 6}, {"\xc3\xa9", 6}, {"\xff\x01", 7}, {"\xff\xff", 7},
	} {
		b, added := many(), entry(x.name, 255, api.MaxNum, 0)
		var want []api.Entry
		want = append(want, b.Entries[:x.at]...)
		want = append(want, added)
		want = append(want, b.Entries[x.at:]...)
		mustAnswer(t, b, create(255, api.MaxNum, x.name), 8, api.Answer{Entry: added}, want...)
	}
}

func TestP1002CreateWhereTheNameIs(t *testing.T) {
	b := many()
	for _, e := range b.Entries {
		for _, client := range []int{e.File.Client, 200} {
			for _, room := range []int{math.MinInt, -1, 0, 1, 6, 7, 8, math.MaxInt} {
				mustAnswer(t, b, create(client, e.File.Op, e.Name), room, api.Answer{Err: api.ErrExists, Entry: e}, b.Entries...)
			}
		}
	}
	mustAnswer(t, one(), create(5, 2, "plum"), 1, api.Answer{Err: api.ErrExists, Entry: entry("plum", 4, 1, 50)}, one().Entries...)
}

func TestP1002CreateWithoutRoom(t *testing.T) {
	full := api.Answer{Err: api.ErrRoom}
	for _, room := range []int{math.MinInt, -1, 0} {
		mustAnswer(t, api.Bucket{}, create(4, 1, "plum"), room, full)
	}
	mustAnswer(t, one(), create(4, 2, "fig"), 1, full, one().Entries...)
	mustAnswer(t, one(), create(4, 2, "fig"), 2, api.Answer{Entry: entry("fig", 4, 2, 0)}, entry("fig", 4, 2, 0), one().Entries[0])
	for _, room := range []int{math.MinInt, -1, 0, 1, 5, 6, 7} {
		for _, name := range []string{"a", "plu", "\xff\xff"} {
			mustAnswer(t, many(), create(4, 2, name), room, full, many().Entries...)
		}
	}
	for _, room := range []int{8, 9, 256, 257, math.MaxInt} {
		mustAnswer(t, many(), create(4, 2, "a"), room, api.Answer{Entry: entry("a", 4, 2, 0)}, append([]api.Entry{entry("a", 4, 2, 0)}, many().Entries...)...)
	}
}

// Of how many entries there may be room alone decides: here more than any configuration has.
func TestP1002CreateBeyondMaxRoom(t *testing.T) {
	b, most := api.Bucket{}, 4*api.MaxRoom+1
	for i := range most {
		name := fmt.Sprintf("%03x", i*7%most)
		next, a, err := bucket.Apply(b, create(1+i%255, i+1, name), most)
		if err != api.OK || !alikeAnswers(a, api.Answer{Entry: entry(name, 1+i%255, i+1, 0)}) || len(next.Entries) != i+1 {
			t.Fatalf("entry %d: %+v, %v", i+1, a, err)
		}
		b = next
	}
	mustBeRight(t, b)
	mustAnswer(t, b, create(4, 9999, "ash"), most, api.Answer{Err: api.ErrRoom}, b.Entries...)
	mustAnswer(t, b, create(4, 9999, "zinc"), most+1, api.Answer{Entry: entry("zinc", 4, 9999, 0)}, append(b.Entries, entry("zinc", 4, 9999, 0))...)
	mustAnswer(t, b, list(4, 9999), 0, api.Answer{List: b.Entries}, b.Entries...)
}

// Room is asked by CCreate alone.
func TestP1002OthersNeedNoRoom(t *testing.T) {
	b, plum := one(), entry("plum", 4, 1, 50)
	for _, room := range []int{math.MinInt, -1, 0, 1} {
		mustAnswer(t, b, lookup(5, 2, "plum"), room, api.Answer{Entry: plum}, plum)
		mustAnswer(t, b, list(5, 2), room, api.Answer{List: []api.Entry{plum}}, plum)
		mustAnswer(t, b, remove(5, 2, "plum"), room, api.Answer{Entry: plum})
		mustAnswer(t, b, remove(5, 2, "fig"), room, api.Answer{Err: api.ErrNotFound}, plum)
		mustAnswer(t, b, setSize(5, 2, "plum", file(4, 1), 3), room, api.Answer{Entry: entry("plum", 4, 1, 3)}, entry("plum", 4, 1, 3))
		mustAnswer(t, b, grow(5, 2, "plum", file(4, 1), 70), room, api.Answer{Entry: entry("plum", 4, 1, 70)}, entry("plum", 4, 1, 70))
		mustAnswer(t, b, replace(5, 2, "plum", file(4, 1), file(6, 6), 3), room, api.Answer{Entry: entry("plum", 6, 6, 3)}, entry("plum", 6, 6, 3))
	}
}

func TestP1002NotFound(t *testing.T) {
	for _, b := range buckets() {
		for _, name := range []string{"a", "fi", "figs", "plu", "plumsy", "PLUM", "pn", "\x80", "\xff\xff"} {
			for _, c := range ofEachKind(4, 3, name, file(4, 1)) {
				if c.Kind != api.CCreate && c.Kind != api.CList {
					mustAnswer(t, b, c, 9, api.Answer{Err: api.ErrNotFound}, b.Entries...)
				}
			}
		}
	}
}

func TestP1002Remove(t *testing.T) {
	mustAnswer(t, one(), remove(9, 9, "plum"), 5, api.Answer{Entry: entry("plum", 4, 1, 50)})
	b := many()
	for i, e := range b.Entries {
		var want []api.Entry
		want = append(want, b.Entries[:i]...)
		want = append(want, b.Entries[i+1:]...)
		mustAnswer(t, b, remove(9, 9, e.Name), 5, api.Answer{Entry: e}, want...)
	}
}

// What was removed may be created again, and is another file then.
func TestP1002CreateBehindRemove(t *testing.T) {
	b, answers := mustReplay(t, one(), 1, create(5, 1, "fig"), remove(5, 2, "plum"), create(5, 3, "plum"), remove(6, 1, "plum"), create(6, 2, "fig"))
	want := []api.Answer{
		{Err: api.ErrRoom}, {Entry: entry("plum", 4, 1, 50)}, {Entry: entry("plum", 5, 3, 0)}, {Entry: entry("plum", 5, 3, 0)}, {Entry: entry("fig", 6, 2, 0)},
	}
	for i, a := range answers {
		if !alikeAnswers(a, want[i]) {
			t.Fatalf("answer %d: %+v; want %+v", i, a, want[i])
		}
	}
	mustName(t, b, "", "fig")
}

func TestP1002Lookup(t *testing.T) {
	for _, b := range []api.Bucket{one(), many()} {
		for _, e := range b.Entries {
			mustAnswer(t, b, lookup(9, 9, e.Name), 5, api.Answer{Entry: e}, b.Entries...)
		}
	}
}

func TestP1002List(t *testing.T) {
	for _, b := range buckets() {
		for _, room := range []int{math.MinInt, 0, 1, 256} {
			mustAnswer(t, b, list(9, 9), room, api.Answer{List: b.Entries}, b.Entries...)
		}
	}
}

// mustChange: by the command the entry of many at i becomes e, and that is told.
func mustChange(t *testing.T, c api.Command, i int, e api.Entry) {
	want := many().Entries
	want[i] = e
	mustAnswer(t, many(), c, 3, api.Answer{Entry: e}, want...)
}

func TestP1002SetSize(t *testing.T) {
	for i, e := range many().Entries {
		for _, size := range []int{0, 1, e.Size, e.Size + 1, maxSize} {
			mustChange(t, setSize(9, 9, e.Name, e.File, size), i, entry(e.Name, e.File.Client, e.File.Op, size))
		}
	}
}

func TestP1002Grow(t *testing.T) {
	for i, e := range many().Entries {
		for _, size := range []int{0, e.Size / 2, max(e.Size-1, 0), e.Size} {
			mustChange(t, grow(9, 9, e.Name, e.File, size), i, e)
		}
		for _, size := range []int{e.Size + 1, 5000, maxSize} {
			mustChange(t, grow(9, 9, e.Name, e.File, size), i, entry(e.Name, e.File.Client, e.File.Op, size))
		}
	}
}

func TestP1002Replace(t *testing.T) {
	for i, e := range many().Entries {
		for _, size := range []int{0, e.Size, e.Size + 1, maxSize} {
			for _, with := range []api.File{file(1, 1), file(255, api.MaxNum), e.File, file(9, 9)} {
				mustChange(t, replace(9, 9, e.Name, e.File, with, size), i, entry(e.Name, with.Client, with.Op, size))
			}
		}
	}
}

// A File that differs in the client or the op alone is another one; so is another entry's, and the one that would take the place.
func TestP1002Stale(t *testing.T) {
	b := many()
	for i, e := range b.Entries {
		for _, f := range []api.File{
			file(e.File.Client+1, e.File.Op), file(e.File.Client, e.File.Op+1), file(e.File.Op, e.File.Client), file(9, 9), b.Entries[(i+1)%7].File,
		} {
			stale := api.Answer{Err: api.ErrStale, Entry: e}
			mustAnswer(t, b, setSize(9, 9, e.Name, f, 3), 9, stale, b.Entries...)
			mustAnswer(t, b, grow(9, 9, e.Name, f, 3000), 9, stale, b.Entries...)
			mustAnswer(t, b, grow(9, 9, e.Name, f, 0), 9, stale, b.Entries...)
			mustAnswer(t, b, replace(9, 9, e.Name, f, e.File, 3), 9, stale, b.Entries...)
			mustAnswer(t, b, replace(9, 9, e.Name, f, f, 3), 9, stale, b.Entries...)
		}
	}
}

// The name's file behind a replace is the new one: the old one is stale from then on.
func TestP1002StaleBehindReplace(t *testing.T) {
	_, answers := mustReplay(t, one(), 1, replace(5, 1, "plum", file(4, 1), file(9, 9), 8), grow(5, 2, "plum", file(4, 1), 9), grow(5, 3, "plum", file(9, 9), 9))
	if !alikeAnswers(answers[1], api.Answer{Err: api.ErrStale, Entry: entry("plum", 9, 9, 8)}) || !alikeAnswers(answers[2], api.Answer{Entry: entry("plum", 9, 9, 9)}) {
		t.Fatalf("%+v", answers)
	}
}

func TestP1002EveryCommandOfEveryBucket(t *testing.T) {
	for _, b := range buckets() {
		mustBeRight(t, b)
		for _, c := range commands() {
			mustBeCommand(t, c)
			for _, room := range []int{-1, 0, 1, 2, 6, 7, 8, 100} {
				want, answer := plainApply(b, c, room)
				mustBeRight(t, mustApply(t, b, c, room, want, answer))
			}
		}
	}
}

// A client's first Last joins where it stands in their order; any other one takes the elder one's place.
func TestP1003Place(t *testing.T) {
	old := many().Lasts
	for _, x := range []struct {
		client, at int
		elder      bool
	}{
		{1, 0, false}, {2, 0, false}, {3, 0, true}, {4, 1, false}, {5, 1, true}, {8, 2, false}, {9, 2, true}, {10, 3, false}, {40, 3, true}, {41, 4, false}, {255, 4, false},
	} {
		behind := x.at
		if x.elder {
			behind++
		}
		for _, op := range []int{1, 5, api.MaxNum} {
			want := append(append([]api.Last{}, old[:x.at]...), last(x.client, op, 41, api.OK, file(3, 12), 200))
			want = append(want, old[behind:]...)
			mustApply(t, many(), grow(x.client, op, "plum", file(3, 12), 1), 9, api.Bucket{Upto: 41, Entries: many().Entries, Lasts: want}, api.Answer{Entry: many().Entries[2]})
		}
	}
}

func TestP1003FirstOfAll(t *testing.T) {
	b := api.Bucket{Upto: 7, Entries: one().Entries}
	mustApply(t, b, setSize(255, api.MaxNum, "plum", file(4, 1), maxSize), 9,
		api.Bucket{Upto: 8, Entries: []api.Entry{entry("plum", 4, 1, maxSize)}, Lasts: []api.Last{last(255, api.MaxNum, 8, api.OK, file(4, 1), maxSize)}},
		api.Answer{Entry: entry("plum", 4, 1, maxSize)})
}

// Err, File and Size are the answer's, whatever it is.
func TestP1003WhatIsKept(t *testing.T) {
	for _, x := range []struct {
		c    api.Command
		want api.Last
	}{
		{create(5, 3, "z"), last(5, 3, 10, api.OK, file(5, 3), 0)},
		{create(5, 3, "plum"), last(5, 3, 10, api.ErrExists, file(4, 1), 50)},
		{remove(5, 3, "plum"), last(5, 3, 10, api.OK, file(4, 1), 50)},
		{remove(5, 3, "z"), last(5, 3, 10, api.ErrNotFound, file(0, 0), 0)},
		{setSize(5, 3, "plum", file(4, 1), 7), last(5, 3, 10, api.OK, file(4, 1), 7)},
		{setSize(5, 3, "plum", file(4, 2), 7), last(5, 3, 10, api.ErrStale, file(4, 1), 50)},
		{setSize(5, 3, "z", file(4, 1), 7), last(5, 3, 10, api.ErrNotFound, file(0, 0), 0)},
		{grow(5, 3, "plum", file(4, 1), 7), last(5, 3, 10, api.OK, file(4, 1), 50)},
		{grow(5, 3, "plum", file(4, 1), 70), last(5, 3, 10, api.OK, file(4, 1), 70)},
		{grow(5, 3, "plum", file(5, 1), 70), last(5, 3, 10, api.ErrStale, file(4, 1), 50)},
		{grow(5, 3, "z", file(4, 1), 7), last(5, 3, 10, api.ErrNotFound, file(0, 0), 0)},
		{replace(5, 3, "plum", file(4, 1), file(8, 8), 7), last(5, 3, 10, api.OK, file(8, 8), 7)},
		{replace(5, 3, "plum", file(8, 8), file(8, 9), 7), last(5, 3, 10, api.ErrStale, file(4, 1), 50)},
		{replace(5, 3, "z", file(4, 1), file(8, 8), 7), last(5, 3, 10, api.ErrNotFound, file(0, 0), 0)},
	} {
		got, _, err := bucket.Apply(one(), x.c, 2)
		if err != api.OK || len(got.Lasts) != 2 || got.Lasts[0] != one().Lasts[0] || got.Lasts[1] != x.want {
			t.Fatalf("%+v: %v, %+v; want %+v", x.c, err, got.Lasts, x.want)
		}
	}
	got, _, _ := bucket.Apply(one(), create(5, 3, "z"), 1)
	mustLast(t, got, 5, last(5, 3, 10, api.ErrRoom, file(0, 0), 0), true)
}

// The Last is of the command, not of who made the file: a command of a lesser op takes an elder one's place all the same.
func TestP1003LesserOp(t *testing.T) {
	b, _ := mustReplay(t, api.Bucket{}, 5, create(4, 9, "fig"), remove(4, 3, "fig"), create(4, 3, "fig"))
	mustLast(t, b, 4, last(4, 3, 3, api.OK, file(4, 3), 0), true)
	if len(b.Lasts) != 1 {
		t.Fatalf("%+v", b.Lasts)
	}
}

func TestP1003QuestionsLeaveThem(t *testing.T) {
	for _, b := range buckets() {
		for _, client := range []int{1, 3, 4, 5, 40, 255} {
			for _, c := range []api.Command{lookup(client, 99, "plum"), lookup(client, 99, "fig"), lookup(client, 99, "none"), list(client, 99)} {
				got, _, err := bucket.Apply(b, c, 1)
				if err != api.OK || !alike(got, withEntries(b, b.Entries...)) {
					t.Fatalf("Apply(%+v, %+v): %+v, %v", b, c, got, err)
				}
			}
		}
	}
}

func TestP1004Upto(t *testing.T) {
	for _, upto := range []int{0, 1, 2, 77, api.MaxInstance - 2, api.MaxInstance - 1} {
		for _, name := range []string{"plum", "z"} {
			for _, f := range []api.File{file(4, 1), file(4, 2)} {
				for _, room := range []int{0, 1, 2} {
					for _, c := range ofEachKind(4, 2, name, f) {
						b := api.Bucket{Upto: upto}
						if upto >= 9 {
							b = one()
							b.Upto = upto
						}
						if got, a, err := bucket.Apply(b, c, room); err != api.OK || got.Upto != upto+1 {
							t.Fatalf("Apply(%+v, %+v, %d): Upto %d, %+v, %v", b, c, room, got.Upto, a, err)
						}
					}
				}
			}
		}
	}
}

// The whole life of a bucket: MaxInstance commands, and not one more.
func TestP1004ToTheEnd(t *testing.T) {
	t.Parallel()
	l := make([]api.Command, api.MaxInstance)
	for i := range l {
		l[i] = grow(1+i%255, 1+i, "fig", file(4, 1), i)
	}
	l[0] = create(4, 1, "fig")
	b, answers := mustReplay(t, api.Bucket{}, 1, l...)
	if b.Upto != api.MaxInstance || len(b.Lasts) != 255 || answers[api.MaxInstance-1].Entry != entry("fig", 4, 1, api.MaxInstance-1) {
		t.Fatalf("Upto %d, %d Lasts, %+v", b.Upto, len(b.Lasts), answers[api.MaxInstance-1])
	}
	mustBeRight(t, b)
	mustRefuse(t, b, list(4, 2), 1, api.ErrWorn)
	if b, answers, err := bucket.Replay(api.Bucket{}, 1, append(l, list(4, 2))...); err != api.ErrWorn || !alike(b, api.Bucket{}) || len(answers) != 0 {
		t.Fatalf("one more: Upto %d, %d answers, %v", b.Upto, len(answers), err)
	}
}
