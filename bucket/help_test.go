package bucket_test

import (
	"iter"
	"math"
	"slices"
	"strings"
	"testing"

	"cairn/api"
	"cairn/bucket"
	"cairn/msg"
)

// The calls are what the document says they are.
var (
	_ func(api.Bucket, api.Command, int) (api.Bucket, api.Answer, api.Errno)      = bucket.Apply
	_ func(api.Bucket, string) (api.Entry, bool)                                  = bucket.Find
	_ func(api.Bucket, int) (api.Last, bool)                                      = bucket.Last
	_ func(api.Bucket, string) iter.Seq[api.Entry]                                = bucket.Names
	_ func(api.Bucket, int, ...api.Command) (api.Bucket, []api.Answer, api.Errno) = bucket.Replay
)

// maxSize is the greatest size that a file has in some configuration.
const maxSize = api.MaxIndex * api.MaxBlock

func file(client, op int) api.File { return api.File{Client: client, Op: op} }

func entry(name string, client, op, size int) api.Entry {
	return api.Entry{Name: name, File: file(client, op), Size: size}
}

func last(client, op, instance int, err api.Errno, f api.File, size int) api.Last {
	return api.Last{Client: client, Op: op, Instance: instance, Err: err, File: f, Size: size}
}

func create(client, op int, name string) api.Command {
	return api.Command{Kind: api.CCreate, Client: client, Op: op, Name: name}
}

func remove(client, op int, name string) api.Command {
	return api.Command{Kind: api.CRemove, Client: client, Op: op, Name: name}
}

func lookup(client, op int, name string) api.Command {
	return api.Command{Kind: api.CLookup, Client: client, Op: op, Name: name}
}

func list(client, op int) api.Command {
	return api.Command{Kind: api.CList, Client: client, Op: op}
}

func setSize(client, op int, name string, f api.File, size int) api.Command {
	return api.Command{Kind: api.CSetSize, Client: client, Op: op, Name: name, File: f, Size: size}
}

func grow(client, op int, name string, f api.File, size int) api.Command {
	return api.Command{Kind: api.CGrow, Client: client, Op: op, Name: name, File: f, Size: size}
}

func replace(client, op int, name string, f, with api.File, size int) api.Command {
	return api.Command{Kind: api.CReplace, Client: client, Op: op, Name: name, File: f, New: with, Size: size}
}

// ofEachKind has one command of each kind, of this client and op.
func ofEachKind(client, op int, name string, f api.File) []api.Command {
	return []api.Command{
		create(client, op, name), remove(client, op, name), lookup(client, op, name), list(client, op),
		setSize(client, op, name, f, 6), grow(client, op, name, f, 6), replace(client, op, name, f, file(8, 8), 6),
	}
}

// many is a bucket of seven entries: names of which one begins with the other, and such as have bytes above 127. The file of the entry at i is {i + 1, 10 + i}, its size 100 * i.
func many() api.Bucket {
	b := api.Bucket{Upto: 40}
	for i, name := range manyNames() {
		b.Entries = append(b.Entries, entry(name, i+1, 10+i, 100*i))
	}
	b.Lasts = []api.Last{
		last(3, 7, 12, api.OK, file(3, 7), 0), last(5, 2, 31, api.ErrStale, file(1, 10), 4),
		last(9, 1, 2, api.ErrNotFound, file(0, 0), 0), last(40, 3, 40, api.ErrExists, file(7, 16), 600),
	}
	return b
}

func manyNames() []string { return []string{"fig", "p", "plum", "plums", "pm", "\x80a", "\xff"} }

func one() api.Bucket {
	return api.Bucket{Upto: 9, Entries: []api.Entry{entry("plum", 4, 1, 50)}, Lasts: []api.Last{last(4, 1, 9, api.OK, file(4, 1), 0)}}
}

// buckets are of no entries (also of none that has gone on), of one and of many.
func buckets() []api.Bucket {
	return []api.Bucket{
		{}, {Upto: 3, Lasts: []api.Last{last(2, 5, 3, api.ErrRoom, file(0, 0), 0)}}, one(), many(),
		{Upto: api.MaxInstance - 1, Entries: many().Entries, Lasts: many().Lasts},
	}
}

// commands are of each kind: names that stand in some of the buckets and names ahead of, between and behind these; the files that the entries have and others; sizes at both ends.
func commands() []api.Command {
	list := []api.Command{list(1, 1), list(255, api.MaxNum)}
	names := append(manyNames(), "a", "fi", "figs", "plu", "plumsy", "pn", "\x7f", "\x80", "\xfe\xff", "\xff\xff", strings.Repeat("z", api.MaxName))
	for i, name := range names {
		for _, client := range []int{1, 4, 255} {
			list = append(list, create(client, 1+i, name), remove(client, api.MaxNum, name), lookup(client, 60, name))
		}
		for _, f := range []api.File{file(4, 1), file(i+1, 10+i), file(i+1, 11+i), file(i+2, 10+i), file(255, api.MaxNum)} {
			for _, size := range []int{0, 49, 50, 51, 100*i - 1, 100 * i, 100*i + 1, maxSize} {
				size = max(size, 0)
				list = append(list, setSize(9, 61, name, f, size), grow(6, 62, name, f, size), replace(40, 63, name, f, file(77, 77), size))
			}
		}
	}
	return list
}

// numbers has what no id, op, kind or size is, beside some that are.
func numbers() []int {
	return []int{math.MinInt, -1, 0, 1, 8, api.MaxId + 1, api.MaxNum + 1, math.MaxInt}
}

// alike tells whether two buckets are the same; no list and an empty one are.
func alike(a, b api.Bucket) bool {
	return a.Upto == b.Upto && slices.Equal(a.Entries, b.Entries) && slices.Equal(a.Lasts, b.Lasts)
}

func alikeAnswers(a, b api.Answer) bool {
	return a.Err == b.Err && a.Entry == b.Entry && slices.Equal(a.List, b.List)
}

// twin has the same in memory of its own.
func twin(b api.Bucket) api.Bucket {
	return api.Bucket{Upto: b.Upto, Entries: slices.Clone(b.Entries), Lasts: slices.Clone(b.Lasts)}
}

// withEntries is the bucket one command later, with these entries.
func withEntries(b api.Bucket, l ...api.Entry) api.Bucket {
	return api.Bucket{Upto: b.Upto + 1, Entries: l, Lasts: b.Lasts}
}

// mustApply holds Apply against the bucket and the answer that it must tell, and looks whether the old bucket stays.
func mustApply(t *testing.T, b api.Bucket, c api.Command, room int, want api.Bucket, answer api.Answer) api.Bucket {
	was := twin(b)
	got, a, err := bucket.Apply(b, c, room)
	if err != api.OK || !alike(got, want) || !alikeAnswers(a, answer) {
		t.Fatalf("Apply(%+v, %+v, %d):\n got %+v, %+v, %v\nwant %+v, %+v", b, c, room, got, a, err, want, answer)
	}
	if !alike(b, was) {
		t.Fatalf("Apply(.., %+v, %d): the old bucket is %+v now; it was %+v", c, room, b, was)
	}
	return got
}

// mustAnswer holds Apply against an answer and the entries behind it alone.
func mustAnswer(t *testing.T, b api.Bucket, c api.Command, room int, answer api.Answer, entries ...api.Entry) api.Bucket {
	got, a, err := bucket.Apply(b, c, room)
	if err != api.OK || !alikeAnswers(a, answer) || !slices.Equal(got.Entries, entries) {
		t.Fatalf("Apply(%+v, %+v, %d):\n got %+v, %+v, %v\nwant %+v and the entries %+v", b, c, room, got, a, err, answer, entries)
	}
	return got
}

// mustRefuse holds Apply, and Replay of the same, against an error and nothing beside it.
func mustRefuse(t *testing.T, b api.Bucket, c api.Command, room int, want api.Errno) {
	was := twin(b)
	got, a, err := bucket.Apply(b, c, room)
	if err != want || !alike(got, api.Bucket{}) || !alikeAnswers(a, api.Answer{}) {
		t.Fatalf("Apply(%+v, %+v, %d): %+v, %+v, %v; want %v and nothing", b, c, room, got, a, err, want)
	}
	got, l, err := bucket.Replay(b, room, c)
	if err != want || !alike(got, api.Bucket{}) || len(l) != 0 {
		t.Fatalf("Replay(%+v, %d, %+v): %+v, %+v, %v; want %v and nothing", b, room, c, got, l, err, want)
	}
	if !alike(b, was) {
		t.Fatalf("%+v: the old bucket is %+v now; it was %+v", c, b, was)
	}
}

// mustReplay replays commands that none may be refused of.
func mustReplay(t *testing.T, b api.Bucket, room int, l ...api.Command) (api.Bucket, []api.Answer) {
	got, answers, err := bucket.Replay(b, room, l...)
	if err != api.OK || len(answers) != len(l) {
		t.Fatalf("Replay(%+v, %d, %+v): %d answers, %v", b, room, l, len(answers), err)
	}
	return got, answers
}

func mustFind(t *testing.T, b api.Bucket, name string, want api.Entry, there bool) {
	if got, ok := bucket.Find(b, name); got != want || ok != there {
		t.Fatalf("Find(%+v, %q): %+v, %v; want %+v, %v", b, name, got, ok, want, there)
	}
}

func mustLast(t *testing.T, b api.Bucket, client int, want api.Last, there bool) {
	if got, ok := bucket.Last(b, client); got != want || ok != there {
		t.Fatalf("Last(%+v, %d): %+v, %v; want %+v, %v", b, client, got, ok, want, there)
	}
}

// mustName holds what Names goes over against these names, each with the entry that stands there.
func mustName(t *testing.T, b api.Bucket, begins string, names ...string) {
	var want []api.Entry
	for _, e := range b.Entries {
		if slices.Contains(names, e.Name) {
			want = append(want, e)
		}
	}
	if got := slices.Collect(bucket.Names(b, begins)); !slices.Equal(got, want) || len(want) != len(names) {
		t.Fatalf("Names(.., %q): %+v; want %q", begins, got, names)
	}
}

// config is the one in which most may be.
var config = api.Config{Servers: []int{1}, F: 0, Points: 1, Buckets: 1, Block: api.MaxBlock, Room: api.MaxRoom}

// mustBeRight holds a bucket of any number of entries against P502: in pieces, since no configuration has room for more than MaxRoom.
func mustBeRight(t *testing.T, b api.Bucket) {
	rest := b.Entries
	for piece := range slices.Chunk(b.Entries, api.MaxRoom) {
		if err := msg.Bucket(api.Bucket{Upto: b.Upto, Entries: piece, Lasts: b.Lasts}, config); err != api.OK {
			t.Fatalf("%+v: %v: no right bucket", b, err)
		}
		rest = rest[len(piece):]
		if len(rest) > 0 && rest[0].Name <= piece[len(piece)-1].Name {
			t.Fatalf("%q behind %q", rest[0].Name, piece[len(piece)-1].Name)
		}
	}
	if err := msg.Bucket(api.Bucket{Upto: b.Upto, Lasts: b.Lasts}, config); err != api.OK {
		t.Fatalf("%+v: %v: no right bucket", b, err)
	}
}

func mustBeCommand(t *testing.T, c api.Command) {
	if err := msg.Command(c, config); err != api.OK {
		t.Fatalf("%+v: %v: no command", c, err)
	}
}
