package chain_test

import (
	"iter"
	"slices"
	"testing"

	"cairn/api"
	"cairn/chain"
)

// machine is a chain, or the plain one that it is held against.
type machine interface {
	Begin(x api.Command, ballot, round int) []api.Msg
	Take(m api.Msg) []api.Msg
	Tick() []api.Msg
	Done() (api.Result, bool)
	Bucket() api.Bucket
	News() iter.Seq2[int, api.Command]
	Ballot() int
	Round() int
}

// These stand here to be compiled: the faces have these types.
var (
	_ func(client, number int, group []int, room int) *chain.Chain = chain.New
	_ machine                                                      = (*chain.Chain)(nil)
)

// What most chains of the tests are of.
const (
	client = 7
	number = 2
	room   = 4
	first  = 3  // the N of their first ballot
	round  = 10 // their first round
)

func group() []int { return []int{4, 2, 9} }

var (
	x    = create(client, 4, "plum")
	y    = create(9, 1, "fig")
	none api.Command
)

func stamp(n, c int) api.Stamp { return api.Stamp{N: n, Client: c} }

func server(id int) api.Addr { return api.Addr{Id: id} }

func user(id int) api.Addr { return api.Addr{Client: true, Id: id} }

func file(client, op int) api.File { return api.File{Client: client, Op: op} }

func entry(name string, client, op, size int) api.Entry {
	return api.Entry{Name: name, File: file(client, op), Size: size}
}

func create(client, op int, name string) api.Command {
	return api.Command{Kind: api.CCreate, Client: client, Op: op, Name: name}
}

func remove(client, op int, name string) api.Command {
	return api.Command{Kind: api.CRemove, Client: client, Op: op, Name: name}
}

func lookup(client, op int, name string) api.Command {
	return api.Command{Kind: api.CLookup, Client: client, Op: op, Name: name}
}

func list(client, op int) api.Command {
	return api.Command{Kind: api.CList, Client: client, Op: op}
}

func setSize(client, op int, name string, f api.File, size int) api.Command {
	return api.Command{Kind: api.CSetSize, Client: client, Op: op, Name: name, File: f, Size: size}
}

func grow(client, op int, name string, f api.File, size int) api.Command {
	return api.Command{Kind: api.CGrow, Client: client, Op: op, Name: name, File: f, Size: size}
}

func replace(client, op int, name string, f, with api.File, size int) api.Command {
	return api.Command{Kind: api.CReplace, Client: client, Op: op, Name: name, File: f, New: with, Size: size}
}

// ofEachKind has one command of each kind, of this client and op.
func ofEachKind(client, op int, name string, f api.File) []api.Command {
	return []api.Command{
		create(client, op, name), remove(client, op, name), lookup(client, op, name), list(client, op),
		setSize(client, op, name, f, 6), grow(client, op, name, f, 6), replace(client, op, name, f, file(8, 8), 6),
	}
}

func fresh() *chain.Chain { return chain.New(client, number, group(), room) }

// begun is one that has proposed x in the first instance.
func begun() *chain.Chain {
	c := fresh()
	c.Begin(x, first, round)
	return c
}

// laying is one whose x is in its second phase there; its round is the second one.
func laying() *chain.Chain {
	c := begun()
	c.Take(start.promise(2))
	c.Take(start.promise(9))
	return c
}

// behind is one that has proposed x behind a trimmed bucket, in the instance above that bucket's Upto.
func behind(b api.Bucket) *chain.Chain {
	c := begun()
	c.Take(start.trimmed(2, b))
	return c
}

// ask is what a chain of client 7 asks: what its messages and their answers bear.
type ask struct{ op, instance, ballot, round int }

// start is what is asked first of x.
var start = ask{op: 4, instance: 1, ballot: first, round: round}

// second is the second phase of an ask.
func (a ask) second() ask {
	a.round++
	return a
}

// anew is what is asked in another instance, if nothing was noted.
func (a ask) anew(instance int) ask {
	return ask{a.op, instance, a.ballot + 1, a.round + 1}
}

func (a ask) key() api.Key { return api.Key{Kind: api.KInstance, A: number, B: a.instance} }

func (a ask) answer(kind, from int) api.Msg {
	return api.Msg{Kind: kind, From: server(from), To: user(client), Op: a.op, Round: a.round, Key: a.key()}
}

func (a ask) promise(from int) api.Msg { return a.holding(from, stamp(0, 0), none) }

func (a ask) holding(from int, held api.Stamp, c api.Command) api.Msg {
	m := a.answer(api.MPromise, from)
	m.Stamp, m.Held, m.Command = stamp(a.ballot, client), held, c
	return m
}

func (a ask) accepted(from int) api.Msg {
	m := a.answer(api.MAccepted, from)
	m.Stamp = stamp(a.ballot, client)
	return m
}

func (a ask) nack(from, n, c int) api.Msg {
	m := a.answer(api.MNack, from)
	m.Stamp = stamp(n, c)
	return m
}

func (a ask) known(from int, c api.Command) api.Msg {
	m := a.answer(api.MKnown, from)
	m.Command = c
	return m
}

func (a ask) trimmed(from int, b api.Bucket) api.Msg {
	m := a.answer(api.MBucket, from)
	m.Bucket = b
	return m
}

func (a ask) tells(kind int, s api.Stamp, c api.Command, to ...int) []api.Msg {
	var list []api.Msg
	for _, id := range to {
		list = append(list, api.Msg{Kind: kind, From: user(client), To: server(id), Op: a.op, Round: a.round, Key: a.key(), Stamp: s, Command: c})
	}
	return list
}

// prepares, accepts, learned are told to the whole group, in its order.
func (a ask) prepares() []api.Msg {
	return a.tells(api.MPrepare, stamp(a.ballot, client), none, group()...)
}

func (a ask) accepts(c api.Command) []api.Msg {
	return a.tells(api.MAccept, stamp(a.ballot, client), c, group()...)
}

func (a ask) learned(c api.Command) []api.Msg {
	return a.tells(api.MLearned, stamp(0, 0), c, group()...)
}

func both(a, b []api.Msg) []api.Msg { return append(slices.Clone(a), b...) }

// sameMsgs holds messages against each other in every field; no list and an empty one are the same.
func sameMsgs(a, b []api.Msg) bool {
	return slices.EqualFunc(a, b, func(x, y api.Msg) bool {
		return x.Kind == y.Kind && x.From == y.From && x.To == y.To && x.Op == y.Op && x.Round == y.Round && x.Key == y.Key &&
			x.Stamp == y.Stamp && x.Held == y.Held && x.Command == y.Command && x.More == y.More &&
			noLists(x) && noLists(y)
	})
}

// noLists looks that what no message of a chain names is empty.
func noLists(m api.Msg) bool {
	return len(m.Block) == 0 && len(m.Commands) == 0 && sameBucket(m.Bucket, api.Bucket{})
}

func sameBucket(a, b api.Bucket) bool {
	return a.Upto == b.Upto && slices.Equal(a.Entries, b.Entries) && slices.Equal(a.Lasts, b.Lasts)
}

func sameResult(a, b api.Result) bool {
	return a.Err == b.Err && a.Entry == b.Entry && slices.Equal(a.List, b.List) && len(a.Data) == 0 && len(b.Data) == 0 &&
		a.N == b.N && a.Stamp == b.Stamp && a.Instance == b.Instance
}

func mustTell(t *testing.T, what string, list []api.Msg, want ...api.Msg) {
	if !sameMsgs(list, want) {
		t.Helper()
		t.Fatalf("%s tells\n%+v, not\n%+v", what, list, want)
	}
}

// mustPassOver hands messages in for each of which nothing is told.
func mustPassOver(t *testing.T, c machine, list ...api.Msg) {
	t.Helper()
	for _, m := range list {
		mustTell(t, "Take", c.Take(m))
	}
}

// item is one of a chain's news.
type item struct {
	instance int
	command  api.Command
}

func newsOf(s iter.Seq2[int, api.Command]) []item {
	var all []item
	for v, c := range s {
		all = append(all, item{v, c})
	}
	return all
}

func mustNews(t *testing.T, c machine, want ...item) {
	t.Helper()
	if got := newsOf(c.News()); !slices.Equal(got, want) {
		t.Fatalf("News: %+v, not %+v", got, want)
	}
	if got := newsOf(c.News()); len(got) > 0 {
		t.Fatalf("News once more: %+v", got)
	}
}

// told is all that a chain tells of itself, but for its news.
type told struct {
	result        api.Result
	done          bool
	bucket        api.Bucket
	ballot, round int
}

func toldBy(c machine) told {
	r, done := c.Done()
	return told{r, done, c.Bucket(), c.Ballot(), c.Round()}
}

func sameTold(a, b told) bool {
	return a.done == b.done && a.ballot == b.ballot && a.round == b.round && sameResult(a.result, b.result) && sameBucket(a.bucket, b.bucket)
}

func mustBe(t *testing.T, c machine, want told) {
	if is := toldBy(c); !sameTold(is, want) {
		t.Helper()
		t.Fatalf("it tells of itself\n%+v, not\n%+v", is, want)
	}
}

// mustGoOn looks that a command is pending, in what was asked; the bucket stays to be looked at.
func mustGoOn(t *testing.T, c machine, a ask) {
	t.Helper()
	if r, done := c.Done(); done || !sameResult(r, api.Result{}) {
		t.Fatalf("Done: %+v, %v: it is pending", r, done)
	}
	mustReach(t, c, a.ballot, a.round)
	if u := c.Bucket().Upto; u != a.instance-1 {
		t.Fatalf("the bucket's Upto is %d, and it proposes in %d", u, a.instance)
	}
}

func mustReach(t *testing.T, c machine, ballot, round int) {
	t.Helper()
	if c.Ballot() != ballot || c.Round() != round {
		t.Fatalf("Ballot %d, Round %d; not %d, %d", c.Ballot(), c.Round(), ballot, round)
	}
}

// mustEnd looks that the command is done with this, and that no answer and no tick moves the chain any more.
func mustEnd(t *testing.T, c machine, want api.Result) {
	t.Helper()
	is := toldBy(c)
	if !is.done || !sameResult(is.result, want) {
		t.Fatalf("Done: %+v, %v; not %+v", is.result, is.done, want)
	}
	for range 2 {
		mustTell(t, "Tick behind the end", c.Tick())
		for in := is.round - 2; in <= is.round+2; in++ {
			for instance := is.bucket.Upto - 1; instance <= is.bucket.Upto+2; instance++ {
				late := ask{x.Op, instance, is.ballot, in}
				for _, id := range group() {
					mustPassOver(t, c, late.promise(id), late.accepted(id), late.nack(id, is.ballot+9, 9), late.known(id, y), late.trimmed(id, api.Bucket{Upto: instance + 5}))
				}
			}
		}
		mustBe(t, c, is)
	}
}

// last is a Last of client 7.
func last(op, instance int, err api.Errno, f api.File, size int) api.Last {
	return api.Last{Client: client, Op: op, Instance: instance, Err: err, File: f, Size: size}
}

// aBucket has entries and Lasts, none of them client 7's.
func aBucket(upto int) api.Bucket {
	return api.Bucket{
		Upto:    upto,
		Entries: []api.Entry{entry("fig", 9, 1, 5), entry("rush", 3, 2, 0)},
		Lasts:   []api.Last{{Client: 3, Op: 4, Instance: 2, File: file(3, 2)}, {Client: 9, Op: 2, Instance: 1, Err: api.ErrRoom}},
	}
}

// with is a bucket with one Last more, between the others.
func with(b api.Bucket, l api.Last) api.Bucket {
	b.Lasts = slices.Clone(b.Lasts)
	at := slices.IndexFunc(b.Lasts, func(o api.Last) bool { return o.Client > l.Client })
	if at < 0 {
		at = len(b.Lasts)
	}
	b.Lasts = slices.Insert(b.Lasts, at, l)
	return b
}
