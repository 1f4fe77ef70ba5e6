package chain_test

import (
	"fmt"
	"testing"

	"cairn/api"
	"cairn/bucket"
	"cairn/chain"
)

// What x is answered is what bucket.Apply says, of each kind of command, behind what was learned.
func TestP1105OwnCommand(t *testing.T) {
	row := []api.Command{create(9, 1, "fig"), create(9, 2, "plum"), grow(3, 1, "plum", file(9, 2), 50)}
	for _, name := range []string{"ash", "fig", "plum"} {
		for _, f := range []api.File{file(9, 1), file(9, 2), file(7, 9)} {
			for _, own := range ofEachKind(client, 4, name, f) {
				for _, space := range []int{2, 3, api.MaxRoom} {
					c, a := chain.New(client, number, group(), space), start
					mustTell(t, "Begin", c.Begin(own, first, round), a.prepares()...)
					for i, other := range row {
						mustTell(t, "MKnown", c.Take(a.known(2, other)), a.anew(i+2).prepares()...)
						a = a.anew(i + 2)
					}
					c.Take(a.promise(2))
					c.Take(a.promise(4))
					mustPassOver(t, c, a.second().accepted(2))
					mustTell(t, "Take", c.Take(a.second().accepted(4)), a.second().learned(own)...)
					b, l, _ := bucket.Replay(api.Bucket{}, space, append(row[:3:3], own)...)
					mustBe(t, c, told{result: api.Result{Err: l[3].Err, Entry: l[3].Entry, List: l[3].List, Instance: 4}, done: true, bucket: b, ballot: a.ballot, round: a.second().round})
					mustNews(t, c, item{1, row[0]}, item{2, row[1]}, item{3, row[2]}, item{4, own})
				}
			}
		}
	}
}

// x is done wherever it is decided: by its own ballot, adopted from a server that held it, or known.
func TestP1105OwnCommandFound(t *testing.T) {
	want := api.Result{Entry: entry("plum", client, 4, 0), Instance: 1}
	c := begun()
	mustPassOver(t, c, start.known(9, x))
	mustReach(t, c, first, round)
	mustNews(t, c, item{1, x})
	mustEnd(t, c, want)

	c = laying()
	mustPassOver(t, c, start.second().known(9, x))
	mustReach(t, c, first, round+1)
	mustEnd(t, c, want)

	c = begun()
	mustPassOver(t, c, start.holding(9, stamp(2, 3), x))
	mustTell(t, "Take", c.Take(start.promise(2)), start.second().accepts(x)...)
	c.Take(start.second().accepted(2))
	mustTell(t, "Take", c.Take(start.second().accepted(4)), start.second().learned(x)...)
	mustEnd(t, c, want)
}

// Its Client and its Op make a command x, the two together.
func TestP1105WhoseCommandIsDecided(t *testing.T) {
	for _, other := range []api.Command{create(client, 3, "plum"), create(client, 5, "plum"), create(6, 4, "plum"), create(8, 4, "plum"), list(client, 3), lookup(9, 4, "plum")} {
		c := begun()
		mustTell(t, "MKnown", c.Take(start.known(4, other)), start.anew(2).prepares()...)
		mustGoOn(t, c, start.anew(2))
		mustNews(t, c, item{1, other})
	}
	for _, same := range ofEachKind(client, 4, "fig", file(9, 1)) {
		c := begun()
		_, answer, _ := bucket.Apply(api.Bucket{}, same, room)
		mustPassOver(t, c, start.known(4, same))
		mustEnd(t, c, api.Result{Err: answer.Err, Entry: answer.Entry, List: answer.List, Instance: 1})
	}
}

// MLearned of what was decided stands ahead of MPrepare in the next instance; of what was known there is no MLearned.
func TestP1105AnotherCommand(t *testing.T) {
	c := begun()
	mustPassOver(t, c, start.holding(4, stamp(2, 9), y))
	mustTell(t, "Take", c.Take(start.promise(2)), start.second().accepts(y)...)
	mustPassOver(t, c, start.second().accepted(9))
	next := start.second().anew(2)
	mustTell(t, "Take", c.Take(start.second().accepted(2)), both(start.second().learned(y), next.prepares())...)
	mustGoOn(t, c, next)
	if b, _, _ := bucket.Apply(api.Bucket{}, y, room); !sameBucket(c.Bucket(), b) {
		t.Fatalf("%+v, not %+v", c.Bucket(), b)
	}
	mustNews(t, c, item{1, y})

	c = laying()
	mustTell(t, "MKnown", c.Take(start.second().known(9, y)), next.prepares()...)
	mustGoOn(t, c, next)
	mustPassOver(t, c, next.promise(4))
	mustTell(t, "Take", c.Take(next.promise(2)), next.second().accepts(x)...)
	mustPassOver(t, c, next.second().accepted(4))
	mustTell(t, "Take", c.Take(next.second().accepted(9)), next.second().learned(x)...)
	mustNews(t, c, item{1, y}, item{2, x})
	mustEnd(t, c, api.Result{Entry: entry("plum", client, 4, 0), Instance: 2})
}

// With a group of one the first acceptance ends an instance.
func TestP1105AnotherCommandInAGroupOfOne(t *testing.T) {
	c := chain.New(client, number, []int{5}, room)
	c.Begin(x, first, round)
	c.Take(start.holding(5, stamp(1, 1), y))
	next := start.second().anew(2)
	learned, prepare := start.second().tells(api.MLearned, stamp(0, 0), y, 5), next.tells(api.MPrepare, stamp(next.ballot, client), none, 5)
	mustTell(t, "Take", c.Take(start.second().accepted(5)), both(learned, prepare)...)
}

func TestP1105InAGroupOfSeven(t *testing.T) {
	servers := []int{70, 10, 60, 20, 50, 30, 40}
	c := chain.New(client, number, servers, room)
	mustTell(t, "Begin", c.Begin(x, first, round), start.tells(api.MPrepare, stamp(first, client), none, servers...)...)
	mustPassOver(t, c, start.promise(10), start.nack(20, 2, 2), start.holding(30, stamp(2, 9), y), start.promise(40))
	mustTell(t, "the fourth promise", c.Take(start.promise(50)), start.second().tells(api.MAccept, stamp(first, client), y, servers...)...)
	a := start.second()
	mustPassOver(t, c, a.accepted(70), a.accepted(70), a.accepted(60), a.accepted(20))
	next := a.anew(2)
	mustTell(t, "the fourth acceptance", c.Take(a.accepted(10)), both(a.tells(api.MLearned, stamp(0, 0), y, servers...), next.tells(api.MPrepare, stamp(next.ballot, client), none, servers...))...)
	mustTell(t, "Tick", c.Tick(), next.tells(api.MPrepare, stamp(next.ballot, client), none, servers...)...)
}

// Behind many commands of others, each of which is learned on the way; here more than there is room for.
func TestP1105BehindMany(t *testing.T) {
	for _, space := range []int{1, 2, 100, api.MaxRoom} {
		c, a := chain.New(client, number, group(), space), start
		mustTell(t, "Begin", c.Begin(x, first, round), a.prepares()...)
		var b api.Bucket
		for i := range api.MaxRoom + 40 {
			other := create(1+i%6, i+1, fmt.Sprintf("%04d", i*37%1000))
			if i%5 == 4 {
				other = remove(1+i%6, i+1, fmt.Sprintf("%04d", (i-2)*37%1000))
			}
			mustTell(t, "MKnown", c.Take(a.known(group()[i%3], other)), a.anew(i+2).prepares()...)
			a = a.anew(i + 2)
			b, _, _ = bucket.Apply(b, other, space)
			mustBe(t, c, told{bucket: b, ballot: a.ballot, round: a.round})
			mustNews(t, c, item{i + 1, other})
		}
		mustPassOver(t, c, a.known(4, x))
		b, answer, _ := bucket.Apply(b, x, space)
		mustBe(t, c, told{result: api.Result{Err: answer.Err, Entry: answer.Entry, Instance: b.Upto}, done: true, bucket: b, ballot: a.ballot, round: a.round})
	}
}

// A directory that is full: by others, and by room 1.
func TestP1105Full(t *testing.T) {
	c, a := chain.New(client, number, group(), 1), start
	c.Begin(x, first, round)
	c.Take(a.known(2, y))
	mustPassOver(t, c, a.anew(2).known(2, x))
	mustEnd(t, c, api.Result{Err: api.ErrRoom, Instance: 2})
	c.Begin(create(client, 5, "fig"), 20, 30)
	mustPassOver(t, c, ask{5, 3, 20, 30}.known(2, create(client, 5, "fig")))
	mustBe(t, c, told{
		result: api.Result{Err: api.ErrExists, Entry: entry("fig", 9, 1, 0), Instance: 3}, done: true, ballot: 20, round: 30,
		bucket: api.Bucket{Upto: 3, Entries: []api.Entry{entry("fig", 9, 1, 0)}, Lasts: []api.Last{last(5, 3, api.ErrExists, file(9, 1), 0), {Client: 9, Op: 1, Instance: 1, File: file(9, 1)}}},
	})

	c = chain.New(client, number, group(), api.MaxRoom)
	c.Begin(x, first, round)
	full := api.Bucket{Upto: 300}
	for i := range api.MaxRoom {
		full.Entries = append(full.Entries, entry(fmt.Sprintf("%04d", i), 9, i+1, 0))
	}
	c.Take(start.trimmed(2, full))
	mustPassOver(t, c, start.anew(301).known(2, x))
	mustEnd(t, c, api.Result{Err: api.ErrRoom, Instance: 301})
	c.Begin(list(client, 5), 20, 30)
	mustPassOver(t, c, ask{5, 302, 20, 30}.known(2, list(client, 5)))
	mustEnd(t, c, api.Result{List: full.Entries, Instance: 302})
}

// Numbers at their end: where x is proposed anew the next ballot or round may be past it.
func TestP1105WornWhereProposedAnew(t *testing.T) {
	const most = api.MaxNum
	for _, a := range []ask{{4, 1, most, 5}, {4, 1, 5, most}, {4, 1, most, most}, {4, 1, most - 1, most}, {4, 1, most - 1, most - 1}} {
		for _, m := range []api.Msg{a.known(2, y), a.trimmed(2, aBucket(5))} {
			c := fresh()
			c.Begin(x, a.ballot, a.round)
			list, next := c.Take(m), a.anew(c.Bucket().Upto+1)
			if next.ballot <= most && next.round <= most {
				mustTell(t, "anew", list, next.prepares()...)
				mustGoOn(t, c, next)
				continue
			}
			mustTell(t, "anew", list)
			mustReach(t, c, next.ballot, next.round)
			mustEnd(t, c, api.Result{Err: api.ErrWorn})
		}
	}
	// What was decided is told to the group, whether x may go on or not.
	c, a := fresh(), ask{4, 1, most, most - 1}
	c.Begin(x, a.ballot, a.round)
	c.Take(a.holding(2, stamp(2, 9), y))
	c.Take(a.promise(9))
	mustPassOver(t, c, a.second().accepted(9))
	mustTell(t, "the second acceptance", c.Take(a.second().accepted(4)), a.second().learned(y)...)
	mustNews(t, c, item{1, y})
	mustEnd(t, c, api.Result{Err: api.ErrWorn})
}

// A proposer that is worn on its way: at a tick behind a refusal, at its second phase.
func TestP1105WornOnTheWay(t *testing.T) {
	const most = api.MaxNum
	c := begun()
	mustPassOver(t, c, start.nack(2, most, 9))
	mustGoOn(t, c, ask{4, 1, most, round})
	mustTell(t, "Tick", c.Tick())
	mustReach(t, c, most, round)
	mustEnd(t, c, api.Result{Err: api.ErrWorn})

	c = begun()
	mustPassOver(t, c, start.nack(2, most-1, 9))
	mustTell(t, "Tick", c.Tick(), ask{4, 1, most, round + 1}.prepares()...)
	mustGoOn(t, c, ask{4, 1, most, round + 1})

	a := ask{4, 1, 5, most}
	c = fresh()
	mustTell(t, "Begin", c.Begin(x, 5, most), a.prepares()...)
	mustPassOver(t, c, a.promise(2), a.promise(4))
	mustReach(t, c, 5, most)
	mustNews(t, c)
	mustEnd(t, c, api.Result{Err: api.ErrWorn})

	c = fresh()
	c.Begin(x, 5, most)
	mustPassOver(t, c, a.known(2, x))
	mustEnd(t, c, api.Result{Entry: entry("plum", client, 4, 0), Instance: 1})
}

// Anew is above all that the proposer noted, not its own ballot alone.
func TestP1105AnewIsAboveWhatWasNoted(t *testing.T) {
	for _, m := range []api.Msg{start.known(4, y), start.trimmed(4, aBucket(5))} {
		c := begun()
		mustPassOver(t, c, start.nack(2, 30, 9), start.nack(9, 25, 9))
		list := c.Take(m)
		a := ask{4, c.Bucket().Upto + 1, 31, round + 1}
		mustTell(t, "anew", list, a.prepares()...)
		mustGoOn(t, c, a)
		mustPassOver(t, c, a.nack(2, 40, 9))
		mustTell(t, "anew once more", c.Take(a.known(9, create(3, 3, "ash"))), ask{4, a.instance + 1, 41, round + 2}.prepares()...)
		mustReach(t, c, 41, round+2)
	}
}

// A Last of each Err; its Entry is x's Name, whatever entries there are.
func TestP1105FoundInATrimmedBucket(t *testing.T) {
	for _, own := range ofEachKind(client, 4, "plum", file(9, 1)) {
		for _, l := range []api.Last{
			last(4, 3, api.OK, file(7, 4), 0), last(4, 3, api.OK, file(9, 1), 70), last(4, 1, api.ErrExists, file(9, 1), 8),
			last(4, 5, api.ErrStale, file(9, 9), 4), last(4, 2, api.ErrNotFound, file(0, 0), 0), last(4, 4, api.ErrRoom, file(0, 0), 0),
		} {
			for _, second := range []bool{false, true} {
				c, a := fresh(), start
				c.Begin(own, first, round)
				if second {
					c.Take(a.promise(4))
					c.Take(a.promise(2))
					a = a.second()
				}
				b := with(aBucket(5), l)
				mustPassOver(t, c, a.trimmed(9, b))
				want := api.Result{Err: l.Err, Entry: api.Entry{Name: own.Name, File: l.File, Size: l.Size}, Instance: l.Instance}
				if l.Err == api.ErrNotFound || l.Err == api.ErrRoom {
					want.Entry = api.Entry{}
				}
				mustNews(t, c)
				mustBe(t, c, told{result: want, done: true, bucket: b, ballot: first, round: a.round})
				mustEnd(t, c, want)
			}
		}
	}
}

// With another Op, or another's Last of that Op, x is proposed anew behind the bucket.
func TestP1105NotFoundInATrimmedBucket(t *testing.T) {
	for _, b := range []api.Bucket{
		{Upto: 5}, aBucket(5), with(aBucket(5), last(3, 5, api.OK, file(7, 3), 0)), with(aBucket(5), last(5, 5, api.OK, file(7, 5), 0)),
		with(aBucket(5), last(api.MaxNum, 1, api.ErrNotFound, file(0, 0), 0)),
		with(aBucket(5), api.Last{Client: 6, Op: 4, Instance: 3, File: file(6, 4)}), with(aBucket(5), api.Last{Client: 8, Op: 4, Instance: 3, File: file(8, 4)}),
		{Upto: 5, Entries: []api.Entry{entry("plum", 7, 4, 0)}},
	} {
		c := begun()
		mustTell(t, "MBucket", c.Take(start.trimmed(2, b)), start.anew(6).prepares()...)
		mustBe(t, c, told{bucket: b, ballot: first + 1, round: round + 1})
		mustNews(t, c)
		mustPassOver(t, c, start.anew(6).promise(2))
		mustTell(t, "Take", c.Take(start.anew(6).promise(4)), start.anew(6).second().accepts(x)...)

		c = laying()
		mustTell(t, "MBucket", c.Take(start.second().trimmed(2, b)), start.second().anew(6).prepares()...)
	}
}

// Its instances are no news; the one behind it is.
func TestP1105NewsBehindATrimmedBucket(t *testing.T) {
	c := begun()
	c.Take(start.known(2, y))
	a := start.anew(2)
	mustTell(t, "MBucket", c.Take(a.trimmed(4, aBucket(9))), a.anew(10).prepares()...)
	a = a.anew(10)
	mustPassOver(t, c, a.known(9, x))
	mustNews(t, c, item{1, y}, item{10, x})
	b, answer, _ := bucket.Apply(aBucket(9), x, room)
	mustBe(t, c, told{result: api.Result{Entry: answer.Entry, Instance: 10}, done: true, bucket: b, ballot: a.ballot, round: a.round})
}

// An Upto that is above the chain's by one, and by many; and such as is not above it, though no server should tell that.
func TestP1105UptoOfATrimmedBucket(t *testing.T) {
	for upto := 5; upto <= 12; upto++ {
		for _, b := range []api.Bucket{aBucket(upto), with(aBucket(upto), last(3, 2, api.OK, file(7, 3), 0)), {Upto: upto}} {
			c := behind(api.Bucket{Upto: 8, Entries: []api.Entry{entry("oak", 5, 5, 5)}})
			a := start.anew(9)
			list, taken := c.Take(a.trimmed(9, b)), b
			if upto <= 8 {
				taken = api.Bucket{Upto: 8, Entries: []api.Entry{entry("oak", 5, 5, 5)}}
			}
			mustTell(t, "MBucket", list, a.anew(taken.Upto+1).prepares()...)
			mustBe(t, c, told{bucket: taken, ballot: first + 2, round: round + 2})
			mustNews(t, c)
		}
		c := behind(api.Bucket{Upto: 8})
		mustPassOver(t, c, start.anew(9).trimmed(9, with(aBucket(upto), last(4, 2, api.OK, file(7, 4), 3))))
		mustEnd(t, c, api.Result{Entry: entry("plum", 7, 4, 3), Instance: 2})
		if is, want := c.Bucket().Upto, max(8, upto); is != want {
			t.Fatalf("Upto %d, not %d", is, want)
		}
	}
}

// A bucket of another room, with more entries than this chain's: it is taken over as it is, and is full.
func TestP1105TrimmedBucketBeyondRoom(t *testing.T) {
	c := chain.New(client, number, group(), 1)
	c.Begin(x, first, round)
	mustTell(t, "MBucket", c.Take(start.trimmed(2, aBucket(5))), start.anew(6).prepares()...)
	mustPassOver(t, c, start.anew(6).known(4, x))
	mustEnd(t, c, api.Result{Err: api.ErrRoom, Instance: 6})
	if b := c.Bucket(); len(b.Entries) != 2 || b.Upto != 6 || len(b.Lasts) != 3 {
		t.Fatalf("%+v", b)
	}
}

// What is found in a bucket of the chain's own is not looked at where x is begun: it is proposed, whatever the Lasts say.
func TestP1105OnlyAToldBucketIsLookedAt(t *testing.T) {
	c := behind(with(aBucket(5), last(4, 3, api.OK, file(7, 4), 0)))
	a := ask{4, 6, 20, 30}
	mustTell(t, "Begin of the same op", c.Begin(x, 20, 30), a.prepares()...)
	mustTell(t, "MKnown", c.Take(a.known(2, y)), a.anew(7).prepares()...)
	mustPassOver(t, c, a.anew(7).trimmed(2, with(aBucket(8), last(4, 3, api.ErrStale, file(9, 4), 6))))
	mustEnd(t, c, api.Result{Err: api.ErrStale, Entry: entry("plum", 9, 4, 6), Instance: 3})
}
