package proposer_test

import (
	"slices"
	"testing"

	"cairn/api"
	"cairn/proposer"
)

// machine is a proposer, or the plain one that it is held against.
type machine interface {
	Begin() []api.Msg
	Take(m api.Msg) []api.Msg
	Tick() []api.Msg
	Decided() (api.Command, bool)
	Trimmed() (api.Bucket, bool)
	Worn() bool
	Ballot() int
	Round() int
}

// These stand here to be compiled: the faces have these types.
var (
	_ func(client, op int, k api.Key, group []int, mine api.Command, ballot, round int) *proposer.Proposer = proposer.New
	_ machine                                                                                              = (*proposer.Proposer)(nil)
)

// What most proposers of the tests are of.
const (
	client = 7
	op     = 4
	first  = 3  // the N of their first ballot
	round  = 10 // their first round
)

var (
	key  = api.Key{Kind: api.KInstance, A: 2, B: 5}
	x    = api.Command{Kind: api.CCreate, Client: 7, Op: 4, Name: "plum"}
	y    = api.Command{Kind: api.CReplace, Client: 9, Op: 2, Name: "fig", File: api.File{Client: 3, Op: 1}, New: api.File{Client: 9, Op: 1}, Size: 5}
	z    = api.Command{Kind: api.CList, Client: 3, Op: 1}
	none api.Command
)

// mine is the ballot of most of them.
func mine() api.Stamp { return stamp(first, client) }

func group() []int { return []int{4, 2, 9} }

func stamp(n, c int) api.Stamp { return api.Stamp{N: n, Client: c} }

func server(id int) api.Addr { return api.Addr{Id: id} }

func user(id int) api.Addr { return api.Addr{Client: true, Id: id} }

func fresh() *proposer.Proposer {
	return proposer.New(client, op, key, group(), x, first, round)
}

// begun is one in its first phase.
func begun() *proposer.Proposer {
	p := fresh()
	p.Begin()
	return p
}

// laying is one in its second phase, which would have its own command accepted, in the round behind the first one.
func laying() *proposer.Proposer {
	p := begun()
	p.Take(promise(2, stamp(0, 0), none))
	p.Take(promise(9, stamp(0, 0), none))
	return p
}

// answer is what a server tells in the first round.
func answer(kind, from int, s api.Stamp) api.Msg {
	return api.Msg{Kind: kind, From: server(from), To: user(client), Op: op, Round: round, Key: key, Stamp: s}
}

func promise(from int, held api.Stamp, c api.Command) api.Msg {
	m := answer(api.MPromise, from, mine())
	m.Held, m.Command = held, c
	return m
}

// accepted is an answer in the second phase, one round behind the first one.
func accepted(from int) api.Msg { return inRound(answer(api.MAccepted, from, mine()), round+1) }

func nack(from, n, c int) api.Msg { return answer(api.MNack, from, stamp(n, c)) }

func known(from int, c api.Command) api.Msg {
	m := answer(api.MKnown, from, stamp(0, 0))
	m.Command = c
	return m
}

func trimmed(from int, b api.Bucket) api.Msg {
	m := answer(api.MBucket, from, stamp(0, 0))
	m.Bucket = b
	return m
}

// aBucket has entries and lasts, each its own.
func aBucket() api.Bucket {
	return api.Bucket{
		Upto:    6,
		Entries: []api.Entry{{Name: "fig", File: api.File{Client: 9, Op: 1}, Size: 5}, {Name: "plum", File: api.File{Client: 7, Op: 2}}},
		Lasts:   []api.Last{{Client: 7, Op: 2, Instance: 3, File: api.File{Client: 7, Op: 2}}, {Client: 9, Op: 2, Instance: 6, Err: api.ErrRoom}},
	}
}

func inRound(m api.Msg, round int) api.Msg {
	m.Round = round
	return m
}

// atBallot is the same message with another ballot as its Stamp.
func atBallot(m api.Msg, s api.Stamp) api.Msg {
	m.Stamp = s
	return m
}

// tells are messages of a proposer to these servers.
func tells(kind, round int, s api.Stamp, c api.Command, to ...int) []api.Msg {
	var list []api.Msg
	for _, id := range to {
		list = append(list, api.Msg{Kind: kind, From: user(client), To: server(id), Op: op, Round: round, Key: key, Stamp: s, Command: c})
	}
	return list
}

func prepares(round int, s api.Stamp, to ...int) []api.Msg {
	return tells(api.MPrepare, round, s, none, to...)
}

func accepts(round int, s api.Stamp, c api.Command, to ...int) []api.Msg {
	return tells(api.MAccept, round, s, c, to...)
}

func learned(round int, c api.Command, to ...int) []api.Msg {
	return tells(api.MLearned, round, stamp(0, 0), c, to...)
}

// sameMsgs holds messages against each other in every field; no list and an empty one are the same.
func sameMsgs(a, b []api.Msg) bool {
	return slices.EqualFunc(a, b, func(x, y api.Msg) bool {
		return x.Kind == y.Kind && x.From == y.From && x.To == y.To && x.Op == y.Op && x.Round == y.Round && x.Key == y.Key &&
			x.Stamp == y.Stamp && x.Held == y.Held && x.Command == y.Command && x.More == y.More &&
			noLists(x) && noLists(y)
	})
}

// noLists looks that what no message of a proposer names is empty.
func noLists(m api.Msg) bool {
	return len(m.Block) == 0 && len(m.Commands) == 0 && sameBucket(m.Bucket, api.Bucket{})
}

func sameBucket(a, b api.Bucket) bool {
	return a.Upto == b.Upto && slices.Equal(a.Entries, b.Entries) && slices.Equal(a.Lasts, b.Lasts)
}

func mustTell(t *testing.T, what string, list []api.Msg, want ...api.Msg) {
	if !sameMsgs(list, want) {
		t.Helper()
		t.Fatalf("%s tells\n%+v, not\n%+v", what, list, want)
	}
}

// mustPassOver hands messages in for each of which nothing is told.
func mustPassOver(t *testing.T, p machine, list ...api.Msg) {
	t.Helper()
	for _, m := range list {
		mustTell(t, "Take", p.Take(m))
	}
}

// told is all that a proposer tells of itself.
type told struct {
	command                api.Command
	bucket                 api.Bucket
	decided, trimmed, worn bool
	ballot, round          int
}

func toldBy(p machine) told {
	var x told
	x.command, x.decided = p.Decided()
	x.bucket, x.trimmed = p.Trimmed()
	x.worn, x.ballot, x.round = p.Worn(), p.Ballot(), p.Round()
	return x
}

func sameTold(a, b told) bool {
	return a.command == b.command && a.decided == b.decided && sameBucket(a.bucket, b.bucket) &&
		a.trimmed == b.trimmed && a.worn == b.worn && a.ballot == b.ballot && a.round == b.round
}

func mustBe(t *testing.T, p machine, want told) {
	if is := toldBy(p); !sameTold(is, want) {
		t.Helper()
		t.Fatalf("it tells of itself\n%+v, not\n%+v", is, want)
	}
}

// mustGoOn looks that a proposer is at no end, and what its Ballot and its Round tell.
func mustGoOn(t *testing.T, p machine, ballot, round int) {
	t.Helper()
	mustBe(t, p, told{ballot: ballot, round: round})
}

// mustEnd looks that a proposer is at its end, telling this of itself, and that nothing moves it any more.
func mustEnd(t *testing.T, p machine, want told) {
	t.Helper()
	mustBe(t, p, want)
	for range 2 {
		mustTell(t, "Begin behind the end", p.Begin())
		mustBe(t, p, want)
		mustTell(t, "Tick behind the end", p.Tick())
		mustBe(t, p, want)
		for _, in := range []int{want.round - 1, want.round, want.round + 1, round, round + 1} {
			for _, id := range group() {
				for _, n := range []int{first, want.ballot, want.ballot + 5} {
					for kind := api.MPromise; kind <= api.MBucket; kind++ {
						late := inRound(answer(kind, id, stamp(n, client)), in)
						late.Held, late.Command, late.Bucket = stamp(2, 9), z, api.Bucket{Upto: 77}
						mustTell(t, "Take behind the end", p.Take(late))
					}
				}
			}
			mustBe(t, p, want)
		}
	}
}

func mustDecide(t *testing.T, p machine, c api.Command, ballot, round int) {
	t.Helper()
	mustEnd(t, p, told{command: c, decided: true, ballot: ballot, round: round})
}

func mustTrim(t *testing.T, p machine, b api.Bucket, ballot, round int) {
	t.Helper()
	mustEnd(t, p, told{bucket: b, trimmed: true, ballot: ballot, round: round})
}

func mustWear(t *testing.T, p machine, ballot, round int) {
	t.Helper()
	mustEnd(t, p, told{worn: true, ballot: ballot, round: round})
}
