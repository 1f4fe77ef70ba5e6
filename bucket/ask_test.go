package bucket_test

import (
	"fmt"
	"math"
	"slices"
	"sort"
	"strings"
	"testing"

	"cairn/api"
	"cairn/bucket"
)

func TestP1005Find(t *testing.T) {
	for _, b := range buckets() {
		for _, e := range b.Entries {
			mustFind(t, b, e.Name, e, true)
		}
		for _, name := range []string{"", "a", "fi", "figs", "o", "pl", "plu", "Plum", "plum\x00", "plumsy", "pn", "\x7f", "\x80", "\x80b", "\xfe", "\xff\x00", "\xff\xff"} {
			mustFind(t, b, name, api.Entry{}, false)
		}
	}
	mustFind(t, api.Bucket{}, "plum", api.Entry{}, false)
}

func TestP1005Last(t *testing.T) {
	for _, b := range buckets() {
		of := map[int]api.Last{}
		for _, l := range b.Lasts {
			of[l.Client] = l
		}
		for client := range 300 {
			l, there := of[client]
			mustLast(t, b, client, l, there)
		}
		for _, client := range []int{math.MinInt, -40, -1, 1<<32 + 3, math.MaxInt} {
			mustLast(t, b, client, api.Last{}, false)
		}
	}
}

// rowOf is a bucket of so many entries and Lasts, with places between them.
func rowOf(n int) api.Bucket {
	b := api.Bucket{Upto: 1000}
	for i := range n {
		b.Entries = append(b.Entries, entry(fmt.Sprintf("%04d", 2*i+1), 1, i+1, i))
		if i < 127 {
			b.Lasts = append(b.Lasts, last(2*i+2, i+1, i+1, api.OK, file(1, i+1), i))
		}
	}
	return b
}

// Of rows of every length the entry at each place is found, and none between them.
func TestP1005RowsOfEveryLength(t *testing.T) {
	for n := range 70 {
		b := rowOf(n)
		for i := range n {
			mustFind(t, b, fmt.Sprintf("%04d", 2*i+1), b.Entries[i], true)
			mustLast(t, b, 2*i+2, b.Lasts[i], true)
		}
		for i := range n + 1 {
			mustFind(t, b, fmt.Sprintf("%04d", 2*i), api.Entry{}, false)
			mustLast(t, b, 2*i+1, api.Last{}, false)
		}
	}
}

func TestP1006Names(t *testing.T) {
	for begins, want := range map[string][]string{
		"": manyNames(), "f": {"fig"}, "fig": {"fig"}, "figs": nil, "p": {"p", "plum", "plums", "pm"}, "pl": {"plum", "plums"}, "plum": {"plum", "plums"},
		"plums": {"plums"}, "plumsy": nil, "pm": {"pm"}, "pn": nil, "P": nil, "lum": nil, "\x00": nil, "a": nil, "z": nil,
		"\x80": {"\x80a"}, "\x80a": {"\x80a"}, "\x80aa": nil, "\xff": {"\xff"}, "\xff\xff": nil, "\xfe": nil,
		strings.Repeat("p", 300): nil, strings.Repeat("\xff", 300): nil,
	} {
		mustName(t, many(), begins, want...)
		mustName(t, api.Bucket{}, begins)
		mustName(t, api.Bucket{Upto: 7, Lasts: many().Lasts}, begins)
	}
	mustName(t, one(), "", "plum")
	mustName(t, one(), "plum", "plum")
	mustName(t, one(), "plump")
	mustName(t, one(), "a")
	mustName(t, one(), "q")
}

// Names of two letters and of bytes at both ends, up to four long: of each beginning what goes over all of them tells.
func TestP1006EveryBeginning(t *testing.T) {
	all := []string{""}
	for i := 0; len(all[i]) < 4; i++ {
		for _, letter := range []string{"\x01", "a", "b", "\xff"} {
			all = append(all, all[i]+letter)
		}
	}
	for _, take := range []int{1, 2, 5} {
		b := api.Bucket{Upto: 400}
		for i, name := range all[1:] {
			if i%take == 0 {
				b.Entries = append(b.Entries, entry(name, 1, i+1, i))
			}
		}
		sort.Slice(b.Entries, func(i, j int) bool { return b.Entries[i].Name < b.Entries[j].Name })
		mustBeRight(t, b)
		for _, begins := range all {
			var want []string
			for _, e := range b.Entries {
				if strings.HasPrefix(e.Name, begins) {
					want = append(want, e.Name)
				}
			}
			mustName(t, b, begins, want...)
		}
	}
}

func TestP1007NoCommands(t *testing.T) {
	for _, b := range append(buckets(), api.Bucket{Upto: api.MaxInstance, Entries: many().Entries}) {
		for _, room := range []int{math.MinInt, 0, 3, math.MaxInt} {
			if got, answers, err := bucket.Replay(b, room); err != api.OK || !alike(got, b) || len(answers) != 0 {
				t.Fatalf("Replay(%+v, %d): %+v, %+v, %v", b, room, got, answers, err)
			}
			if got, answers, err := bucket.Replay(b, room, []api.Command{}...); err != api.OK || !alike(got, b) || len(answers) != 0 {
				t.Fatalf("Replay(%+v, %d) of an empty list: %+v, %+v, %v", b, room, got, answers, err)
			}
		}
	}
}

// Replay is Apply again and again, with one room.
func TestP1007OneBehindTheOther(t *testing.T) {
	for _, b := range buckets()[:4] {
		for _, room := range []int{-1, 0, 1, 2, 5, 8, 12} {
			l := commands()[:400]
			got, answers := mustReplay(t, b, room, l...)
			for i, c := range l {
				var a api.Answer
				b, a, _ = bucket.Apply(b, c, room)
				if !alikeAnswers(a, answers[i]) {
					t.Fatalf("answer %d: %+v; Apply: %+v", i, answers[i], a)
				}
			}
			if !alike(got, b) {
				t.Fatalf("Replay: %+v; Apply: %+v", got, b)
			}
		}
	}
}

// The first refusal is what is told, wherever it stands, and nothing beside it.
func TestP1007Refused(t *testing.T) {
	good := []api.Command{create(4, 1, "fig"), list(4, 2), remove(4, 3, "fig"), create(5, 1, "plum"), lookup(5, 2, "plum")}
	for _, bad := range []api.Command{{}, create(0, 1, "ash"), list(4, 0), {Kind: 8, Client: 4, Op: 4}, grow(256, 1, "plum", file(5, 1), 3)} {
		for at := range len(good) + 1 {
			l := slices.Insert(slices.Clone(good), at, bad)
			for _, b := range buckets()[:4] {
				mustEnd(t, b, l, api.ErrCommand)
			}
			for left := range len(l) {
				want := api.ErrCommand
				if left < at {
					want = api.ErrWorn
				}
				mustEnd(t, api.Bucket{Upto: api.MaxInstance - left}, l, want)
			}
		}
	}
	mustEnd(t, api.Bucket{Upto: api.MaxInstance - 4}, good, api.ErrWorn)
	mustReplay(t, api.Bucket{Upto: api.MaxInstance - 5}, 3, good...)
}

// mustEnd holds Replay against an error with nothing beside it.
func mustEnd(t *testing.T, b api.Bucket, l []api.Command, want api.Errno) {
	was, row := twin(b), slices.Clone(l)
	if got, answers, err := bucket.Replay(b, 3, l...); err != want || !alike(got, api.Bucket{}) || len(answers) != 0 {
		t.Fatalf("Replay(%+v, 3, %+v): %+v, %+v, %v; want %v and nothing", b, l, got, answers, err, want)
	}
	if !alike(b, was) || !slices.Equal(l, row) {
		t.Fatalf("what was handed in is %+v, %+v now", b, l)
	}
}
