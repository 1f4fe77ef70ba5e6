package bucket_test

import (
	"fmt"
	"math/rand"
	"slices"
	"testing"

	"cairn/api"
	"cairn/bucket"
)

// shortRow has commands of two names (the one begins with the other), two clients, some files and sizes, all with this op.
func shortRow(op int) []api.Command {
	var all []api.Command
	for _, name := range []string{"a", "ab"} {
		for client := 1; client <= 2; client++ {
			all = append(all, create(client, op, name), remove(client, op, name))
		}
		all = append(all, lookup(1, op, name))
		for _, f := range []api.File{file(1, 1), file(2, 1), file(9, 9)} {
			all = append(all, setSize(1, op, name, f, 4), grow(2, op, name, f, 3), grow(2, op, name, f, 6), replace(1, op, name, f, file(9, 9), 5))
		}
	}
	return append(all, list(2, op))
}

// mustStep makes a step of a right bucket and a right command, and holds it against the table, against P1008 and the front half of P1009.
func mustStep(t *testing.T, b api.Bucket, c api.Command, room int) (api.Bucket, api.Answer) {
	want, answer := plainApply(b, c, room)
	got := mustApply(t, b, c, room, want, answer)
	mustBeRight(t, got)
	if len(b.Entries) <= room && len(got.Entries) > room {
		t.Fatalf("%d entries behind %d, with room %d", len(got.Entries), len(b.Entries), room)
	}
	mustLeaveOthers(t, b, got, c)
	return got, answer
}

// mustLeaveOthers: what of the entries is not of the command's name stays as it was.
func mustLeaveOthers(t *testing.T, was, is api.Bucket, c api.Command) {
	others := func(b api.Bucket) []api.Entry {
		return slices.DeleteFunc(slices.Clone(b.Entries), func(e api.Entry) bool { return e.Name == c.Name })
	}
	if !slices.Equal(others(was), others(is)) {
		t.Fatalf("%+v: the others were %+v, are %+v", c, others(was), others(is))
	}
}

func TestP1008EveryRowOfCommands(t *testing.T) {
	for room := range 3 {
		t.Run(fmt.Sprint("room ", room), func(t *testing.T) {
			t.Parallel()
			var behind func(b api.Bucket, op int)
			behind = func(b api.Bucket, op int) {
				if op > 3 {
					return
				}
				for _, c := range shortRow(op) {
					next, _ := mustStep(t, b, c, room)
					behind(next, op+1)
				}
			}
			behind(api.Bucket{}, 1)
		})
	}
}

// someNames are in none of the orders that matter, with others' beginnings and bytes above 127 among them.
func someNames(n int) []string {
	names := []string{"plum", "plums", "pl", "fig", "\xff", "\xff\xff", "\x80", "a", "b", "ab", "aa", "a\x01", "Fig", "\x7f"}
	for i := len(names); i < n; i++ {
		names = append(names, fmt.Sprintf("%x", i*i*i))
	}
	return names[:n]
}

// randomRow has commands of so many names and clients; the files that they name are such as they create, often those that stand.
func randomRow(r *rand.Rand, long, names, clients int) []api.Command {
	list := make([]api.Command, long)
	all := someNames(names)
	latest := map[string]api.File{}
	for i := range list {
		c := api.Command{Kind: 1 + r.Intn(7), Client: 1 + r.Intn(clients), Op: i + 1}
		if c.Kind != api.CList {
			c.Name = all[r.Intn(names)]
		}
		if c.Kind >= api.CSetSize {
			c.File, c.Size = latest[c.Name], r.Intn(50)
			if c.File == (api.File{}) || r.Intn(4) == 0 {
				c.File = file(1+r.Intn(clients), 1+r.Intn(long))
			}
		}
		switch c.Kind {
		case api.CCreate:
			if latest[c.Name] == (api.File{}) {
				latest[c.Name] = file(c.Client, c.Op)
			}
		case api.CReplace:
			c.New = file(1+r.Intn(clients), i+1)
			if c.File == latest[c.Name] {
				latest[c.Name] = c.New
			}
		case api.CRemove:
			delete(latest, c.Name)
		}
		list[i] = c
	}
	return list
}

// kindsOf counts what a row was answered, by kind and error: a row in which one never comes tests little.
type kindsOf map[[2]int]int

func (k kindsOf) count(c api.Command, a api.Answer) { k[[2]int{c.Kind, int(a.Err)}]++ }

func (k kindsOf) mustHaveAll(t *testing.T) {
	for kind, errs := range map[int][]api.Errno{
		api.CCreate: {api.OK, api.ErrExists, api.ErrRoom}, api.CRemove: {api.OK, api.ErrNotFound}, api.CLookup: {api.OK, api.ErrNotFound}, api.CList: {api.OK},
		api.CSetSize: {api.OK, api.ErrNotFound, api.ErrStale}, api.CGrow: {api.OK, api.ErrNotFound, api.ErrStale}, api.CReplace: {api.OK, api.ErrNotFound, api.ErrStale},
	} {
		for _, err := range errs {
			if k[[2]int{kind, int(err)}] < 20 {
				t.Errorf("kind %d is answered %v %d times alone", kind, err, k[[2]int{kind, int(err)}])
			}
		}
	}
}

func TestP1008LongRowsOfCommands(t *testing.T) {
	t.Parallel()
	r, seen := rand.New(rand.NewSource(10)), kindsOf{}
	for round := range 120 {
		room, names := r.Intn(12), 1+r.Intn(14)
		if round%20 == 0 {
			room, names = 300, 400
		}
		b := api.Bucket{}
		for _, c := range randomRow(r, 120+round, names, 1+r.Intn(255)) {
			var a api.Answer
			mustBeCommand(t, c)
			b, a = mustStep(t, b, c, room)
			seen.count(c, a)
		}
	}
	seen.mustHaveAll(t)
}

// A bucket that has more entries than room has never more of them than it had.
func TestP1008MoreThanRoom(t *testing.T) {
	r := rand.New(rand.NewSource(11))
	for room := -1; room < 9; room++ {
		b := many()
		for _, c := range randomRow(r, 200, 14, 9) {
			next, _ := mustStep(t, b, c, room)
			if len(next.Entries) > max(room, len(b.Entries)) {
				t.Fatalf("room %d: %d entries behind %d", room, len(next.Entries), len(b.Entries))
			}
			b = next
		}
	}
}

// A row in two pieces, cut anywhere, is the row in one.
func TestP1008InTwoPieces(t *testing.T) {
	r := rand.New(rand.NewSource(12))
	for range 60 {
		room, start := r.Intn(8), buckets()[r.Intn(4)]
		row := randomRow(r, 40, 1+r.Intn(9), 5)
		whole, answers := mustReplay(t, start, room, row...)
		for cut := range len(row) + 1 {
			half, front := mustReplay(t, start, room, row[:cut]...)
			got, back := mustReplay(t, half, room, row[cut:]...)
			if !alike(got, whole) || !slices.EqualFunc(append(front, back...), answers, alikeAnswers) {
				t.Fatalf("cut at %d: %+v; in one piece: %+v", cut, got, whole)
			}
		}
	}
}

// ofName are the commands of a row with that Name.
func ofName(row []api.Command, name string) []api.Command {
	return slices.DeleteFunc(slices.Clone(row), func(c api.Command) bool { return c.Name != name })
}

// Without ErrRoom what becomes of a name hangs on the commands of that name alone.
func TestP1009NameByName(t *testing.T) {
	r := rand.New(rand.NewSource(13))
	for range 150 {
		start, names := buckets()[r.Intn(4)], 1+r.Intn(14)
		row := randomRow(r, 80, names, 4)
		room := len(start.Entries) + names
		b, answers := mustReplay(t, start, room, row...)
		for _, a := range answers {
			if a.Err == api.ErrRoom {
				t.Fatalf("room %d is too little for %d names", room, names)
			}
		}
		for _, name := range append(someNames(names), manyNames()...) {
			alone, _ := mustReplay(t, start, room, ofName(row, name)...)
			e, there := bucket.Find(alone, name)
			mustFind(t, b, name, e, there)
		}
	}
}

// As long as nothing is answered ErrRoom: rows with little room are held against it up to there.
func TestP1009UpToTheFirstErrRoom(t *testing.T) {
	r, ended := rand.New(rand.NewSource(14)), 0
	for range 150 {
		names := 2 + r.Intn(8)
		row, room := randomRow(r, 60, names, 4), 1+r.Intn(names)
		b, upto := api.Bucket{}, 0
		for i, c := range row {
			next, a, _ := bucket.Apply(b, c, room)
			if a.Err == api.ErrRoom {
				ended++
				break
			}
			b, upto = next, i+1
		}
		for _, name := range someNames(names) {
			alone, _ := mustReplay(t, api.Bucket{}, room, ofName(row[:upto], name)...)
			e, there := bucket.Find(alone, name)
			mustFind(t, b, name, e, there)
		}
	}
	if ended < 50 {
		t.Fatalf("%d rows alone came to ErrRoom", ended)
	}
}

// With ErrRoom another name's commands matter: a name that had no room is none, though its own commands alone would make it.
func TestP1009WithErrRoom(t *testing.T) {
	row := []api.Command{create(4, 1, "plum"), create(5, 1, "fig"), remove(4, 2, "plum"), grow(5, 2, "fig", file(5, 1), 3)}
	b, answers := mustReplay(t, api.Bucket{}, 1, row...)
	if answers[1].Err != api.ErrRoom || answers[3].Err != api.ErrNotFound || len(b.Entries) != 0 {
		t.Fatalf("%+v, %+v", b, answers)
	}
	b, _ = mustReplay(t, api.Bucket{}, 1, ofName(row, "fig")...)
	mustFind(t, b, "fig", entry("fig", 5, 1, 3), true)
}

// The same is answered again, whatever was asked between.
func TestP3SameAgain(t *testing.T) {
	r, all := rand.New(rand.NewSource(3)), commands()
	any := func() (api.Bucket, api.Command, int) {
		return buckets()[r.Intn(5)], all[r.Intn(len(all))], r.Intn(9)
	}
	for range 3000 {
		b, c, room := any()
		first, answer, _ := bucket.Apply(b, c, room)
		for range 3 {
			bucket.Apply(any())
		}
		for range 2 {
			if again, a, err := bucket.Apply(b, c, room); err != api.OK || !alike(again, first) || !alikeAnswers(a, answer) {
				t.Fatalf("%+v: %+v, then %+v", c, first, again)
			}
		}
	}
}
