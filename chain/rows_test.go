package chain_test

import (
	"fmt"
	"math/rand"
	"slices"
	"testing"

	"cairn/api"
	"cairn/chain"
)

// call is one call of a chain.
type call struct {
	what          string // "Begin", "Take", "Tick", "News"
	command       api.Command
	ballot, round int
	msg           api.Msg
}

func (c call) on(m machine) []api.Msg {
	switch c.what {
	case "Begin":
		return m.Begin(c.command, c.ballot, c.round)
	case "Tick":
		return m.Tick()
	case "Take":
		return m.Take(c.msg)
	}
	return nil
}

// pair is a chain, and beside it the chapter's words.
type pair struct {
	real  *chain.Chain
	words *plain
}

func newPair(of plain) pair { return pair{of.real(), &of} }

// do makes a call of both, and tells what came, and where they were not alike.
func (p pair) do(c call) ([]api.Msg, string) {
	list, want := c.on(p.real), c.on(p.words)
	if !sameMsgs(list, want) {
		return list, fmt.Sprintf("it tells\n%+v, not\n%+v", list, want)
	}
	if a, b := toldBy(p.real), toldBy(p.words); !sameTold(a, b) {
		return list, fmt.Sprintf("it tells of itself\n%+v, not\n%+v", a, b)
	}
	if c.what == "News" {
		if a, b := newsOf(p.real.News()), newsOf(p.words.News()); !slices.Equal(a, b) {
			return list, fmt.Sprintf("news %+v, not %+v", a, b)
		}
	}
	return list, ""
}

// asks is what a plain chain asks now.
func (p *plain) asks() ask {
	if len(p.made) == 0 {
		return start
	}
	now := p.present()
	return ask{p.command.Op, p.Bucket().Upto + 1, now.Ballot(), now.Round()}
}

// move makes a call of where a chain stands: an answer to what it asks now, say.
type move struct {
	name string
	call func(now *plain) call
}

func taking(name string, of func(a ask, now *plain) api.Msg) move {
	return move{name, func(now *plain) call { return call{what: "Take", msg: of(now.asks(), now)} }}
}

// moves are all that brings a chain on, each in its plainest form: servers 4 and 2 agree, 9 is the one that knows of others.
func moves() []move {
	return []move{
		{"tick", func(*plain) call { return call{what: "Tick"} }},
		{"news", func(*plain) call { return call{what: "News"} }},
		{"begin", func(now *plain) call {
			return call{what: "Begin", command: create(client, now.command.Op+1, "plum"), ballot: now.Ballot() + 1, round: now.Round() + 1}
		}},
		taking("promise of 4", func(a ask, _ *plain) api.Msg { return a.promise(4) }),
		taking("promise of 2", func(a ask, _ *plain) api.Msg { return a.promise(2) }),
		taking("accepted by 4", func(a ask, _ *plain) api.Msg { return a.accepted(4) }),
		taking("accepted by 2", func(a ask, _ *plain) api.Msg { return a.accepted(2) }),
		taking("held by 9", func(a ask, _ *plain) api.Msg { return a.holding(9, stamp(1, 3), y) }),
		taking("refused", func(a ask, _ *plain) api.Msg { return a.nack(9, a.ballot+2, 9) }),
		taking("another is known", func(a ask, _ *plain) api.Msg { return a.known(9, y) }),
		taking("it is known", func(a ask, now *plain) api.Msg { return a.known(9, now.command) }),
		taking("trimmed", func(a ask, _ *plain) api.Msg { return a.trimmed(9, aBucket(a.instance+1)) }),
		taking("trimmed with it", func(a ask, now *plain) api.Msg {
			return a.trimmed(9, with(aBucket(a.instance), last(now.command.Op, a.instance, api.OK, file(7, 4), 0)))
		}),
	}
}

func everyRow(row []move, more int, of []move, do func([]move)) {
	if more == 0 {
		do(row)
		return
	}
	for _, m := range of {
		everyRow(append(row[:len(row):len(row)], m), more-1, of, do)
	}
}

// Every row of four moves: ahead of the first Begin, behind it, in the second phase, behind a refusal, behind another's command and a trimmed bucket, behind the end.
func TestP1105EveryRow(t *testing.T) {
	t.Parallel()
	all := moves()
	for _, names := range [][]string{
		{}, {"begin"}, {"begin", "promise of 4", "promise of 2"}, {"begin", "refused"}, {"begin", "another is known", "trimmed"}, {"begin", "it is known"},
	} {
		var ahead []move
		for _, name := range names {
			ahead = append(ahead, all[slices.IndexFunc(all, func(m move) bool { return m.name == name })])
		}
		everyRow(ahead, 4, all, func(row []move) { mustFollow(t, row) })
	}
}

// mustFollow makes the moves with a chain, and with the chapter's words.
func mustFollow(t *testing.T, row []move) {
	p := newPair(*usual())
	for at, m := range row {
		c := m.call(p.words)
		if _, fault := p.do(c); fault != "" {
			var names []string
			for _, m := range row[:at+1] {
				names = append(names, m.name)
			}
			t.Fatalf("at the last of %q, %+v: %s", names, c, fault)
		}
	}
}

// oneOf is one of these.
func oneOf[T any](r *rand.Rand, list ...T) T { return list[r.Intn(len(list))] }

func anyCommand(r *rand.Rand, client, op int) api.Command {
	name, f := oneOf(r, "ash", "fig", "oak", "plum", "rush"), file(1+r.Intn(9), 1+r.Intn(9))
	size := r.Intn(90)
	switch r.Intn(8) {
	case 0:
		return remove(client, op, name)
	case 1:
		return lookup(client, op, name)
	case 2:
		return list(client, op)
	case 3:
		return setSize(client, op, name, f, size)
	case 4:
		return grow(client, op, name, f, size)
	case 5:
		return replace(client, op, name, f, file(1+r.Intn(9), 1+r.Intn(9)), size)
	}
	return create(client, op, name)
}

// anyBucket is near what a chain asks: its Upto at, above or below that, its Lasts of others and of the chain's client.
func anyBucket(r *rand.Rand, a ask) api.Bucket {
	b := aBucket(max(1, a.instance+oneOf(r, -2, -1, 0, 0, 0, 1, 1, 5, 40)))
	if r.Intn(60) == 0 {
		b.Upto = api.MaxInstance - r.Intn(3)
	}
	b.Upto = min(b.Upto, api.MaxInstance)
	l := last(a.op+oneOf(r, -1, -1, 0, 1), 1+r.Intn(b.Upto), oneOf(r, api.OK, api.ErrExists, api.ErrStale, api.ErrNotFound, api.ErrRoom), file(1+r.Intn(9), 1+r.Intn(9)), r.Intn(90))
	if l.Err == api.ErrNotFound || l.Err == api.ErrRoom {
		l.File, l.Size = api.File{}, 0
	}
	if r.Intn(3) > 0 {
		return with(b, l)
	}
	return b
}

// anyCall is mostly an answer to what is asked now, or near it.
func anyCall(r *rand.Rand, now *plain) call {
	if now.stands != "pending" && r.Intn(4) > 0 || r.Intn(40) == 0 {
		c := call{what: "Begin", command: anyCommand(r, now.client, now.command.Op+oneOf(r, 0, 1, 1, 1, 2)), ballot: now.Ballot() + oneOf(r, 1, 1, 2, -1), round: now.Round() + oneOf(r, 1, 1, 2, -1)}
		if r.Intn(8) == 0 {
			c.ballot = oneOf(r, 0, 1, api.MaxNum-2, api.MaxNum, api.MaxNum+1)
		}
		if r.Intn(8) == 0 {
			c.round = oneOf(r, 0, 1, api.MaxNum-2, api.MaxNum, api.MaxNum+1)
		}
		c.command.Op = max(c.command.Op, 1)
		return c
	}
	if r.Intn(9) == 0 {
		return call{what: oneOf(r, "Tick", "Tick", "News")}
	}
	return call{what: "Take", msg: anyAnswer(r, now)}
}

func anyAnswer(r *rand.Rand, now *plain) api.Msg {
	a, id := now.asks(), oneOf(r, 4, 2, 9, 9, 1)
	var m api.Msg
	switch r.Intn(14) {
	case 0:
		m = a.nack(id, max(1, a.ballot+oneOf(r, -1, 0, 1, 7)), 9)
	case 1:
		m = a.known(id, anyCommand(r, oneOf(r, 3, 7, 9), max(1, a.op+oneOf(r, -1, 0, 1))))
	case 2:
		m = a.known(id, now.command)
	case 3:
		m = a.trimmed(id, anyBucket(r, a))
	case 4, 5:
		m = a.holding(id, stamp(max(a.ballot-1, 1), oneOf(r, 3, 9)), anyCommand(r, oneOf(r, 3, 9), 1+r.Intn(5)))
	case 6, 7, 8:
		m = a.promise(id)
	default:
		m = a.accepted(id)
	}
	switch r.Intn(20) {
	case 0:
		m.Round += oneOf(r, -1, 1)
	case 1:
		m.Key.B += oneOf(r, -1, 1)
	case 2:
		m.Op += oneOf(r, -1, 1)
	case 3:
		m.To.Id += oneOf(r, -1, 1)
	}
	return m
}

// Long rows of calls, one command behind the other, with numbers at their edges among them.
func TestP1104ManyRowsOfCalls(t *testing.T) {
	t.Parallel()
	r := rand.New(rand.NewSource(11))
	seen := map[string]int{}
	for range 12000 {
		of := *usual()
		of.room = oneOf(r, 1, 2, room, api.MaxRoom)
		of.group = oneOf(r, group(), group(), []int{9}, []int{4, 2}, []int{1, 9, 2, 4, 3, 5, 8})
		p := newPair(of)
		for range 40 {
			c := anyCall(r, p.words)
			if p.words.stands == "pending" && c.what == "Begin" {
				seen["a second Begin"]++
			}
			if _, fault := p.do(c); fault != "" {
				t.Fatalf("%+v, at %+v: %s", of, c, fault)
			}
		}
		seen[p.words.by]++
		if len(p.words.news) > 3 {
			seen["much news"]++
		}
		if p.words.base.Upto > 0 && len(p.words.row) > 0 {
			seen["behind a bucket"]++
		}
	}
	for _, kind := range []string{"decided", "Last", "number", "instance", "a second Begin", "much news", "behind a bucket"} {
		if seen[kind] < 100 {
			t.Fatalf("too few of a kind: %v", seen)
		}
	}
}

// The same calls in the same order answer the same.
func TestP3SameAgain(t *testing.T) {
	for seed := range int64(200) {
		var calls []call
		var lists [][]api.Msg
		var itself []told
		var news [][]item
		r, p := rand.New(rand.NewSource(seed)), newPair(*usual())
		for range 40 {
			c := anyCall(r, p.words)
			list, _ := p.do(c)
			calls, lists, itself = append(calls, c), append(lists, list), append(itself, toldBy(p.real))
		}
		for turn := range 3 {
			c := fresh()
			for i, one := range calls {
				mustTell(t, "the same call again", one.on(c), lists[i]...)
				mustBe(t, c, itself[i])
				got := newsOf(c.News())
				if turn == 0 {
					news = append(news, got)
				} else if !slices.Equal(got, news[i]) {
					t.Fatalf("News: %+v, then %+v", news[i], got)
				}
			}
		}
	}
}
