package acceptor_test

import (
	"testing"

	"cairn/acceptor"
	"cairn/api"
	"cairn/msg"
)

// The calls are what the document says they are.
var (
	_ func(api.Instance, api.Stamp) (api.Instance, api.Msg, bool)              = acceptor.Prepare
	_ func(api.Instance, api.Stamp, api.Command) (api.Instance, api.Msg, bool) = acceptor.Accept
	_ func(api.Instance, api.Command) (api.Instance, bool)                     = acceptor.Learned
)

var (
	x = api.Command{Kind: api.CReplace, Client: 7, Op: 4, Name: "plum", File: api.File{Client: 3, Op: 1}, New: api.File{Client: 7, Op: 2}, Size: 5}
	y = api.Command{Kind: api.CList, Client: 9, Op: 2}
	z = api.Command{Kind: api.CCreate, Client: 7, Op: 4, Name: "plum"}
)

// nearX are commands that each differ from x in one field alone.
func nearX() []api.Command {
	var list []api.Command
	for _, change := range []func(c *api.Command){
		func(c *api.Command) { c.Client = 8 },
		func(c *api.Command) { c.Op = 5 },
		func(c *api.Command) { c.Name = "plun" },
		func(c *api.Command) { c.File.Client = 4 },
		func(c *api.Command) { c.File.Op = 2 },
		func(c *api.Command) { c.New.Client = 8 },
		func(c *api.Command) { c.New.Op = 3 },
		func(c *api.Command) { c.Size = 6 },
	} {
		c := x
		change(&c)
		list = append(list, c)
	}
	return list
}

// commands are of every kind, x, y, z and those near x among them.
func commands() []api.Command {
	file := api.File{Client: 255, Op: api.MaxNum}
	return append(nearX(), x, y, z,
		api.Command{Kind: api.CRemove, Client: 1, Op: 1, Name: "a"},
		api.Command{Kind: api.CLookup, Client: 255, Op: api.MaxNum, Name: "\xff"},
		api.Command{Kind: api.CSetSize, Client: 7, Op: 4, Name: "plum", File: file},
		api.Command{Kind: api.CSetSize, Client: 7, Op: 4, Name: "plum", File: file, Size: 5},
		api.Command{Kind: api.CGrow, Client: 7, Op: 4, Name: "plum", File: file, Size: 5},
	)
}

// What is none of its kind.
var (
	none    api.Stamp
	nothing api.Command
	zero    api.Instance
)

func stamp(n, client int) api.Stamp { return api.Stamp{N: n, Client: client} }

// ballots are neighbours by N and by Client, and those at the ends of both.
func ballots() []api.Stamp {
	return []api.Stamp{
		{N: 1, Client: 1}, {N: 1, Client: 2}, {N: 1, Client: 255},
		{N: 2, Client: 1}, {N: 2, Client: 2}, {N: 3, Client: 1}, {N: 3, Client: 7},
		{N: api.MaxNum - 1, Client: 255}, {N: api.MaxNum, Client: 1}, {N: api.MaxNum, Client: 255},
	}
}

// rank says the order of stamps by one number, without the package's own comparison.
func rank(s api.Stamp) int { return s.N*1000 + s.Client }

// instances are right ones: the zero one, promised, accepted, promised above what was accepted, decided.
func instances() []api.Instance {
	list := []api.Instance{{}}
	for _, p := range ballots() {
		list = append(list, api.Instance{Promised: p})
		for _, a := range ballots() {
			if rank(a) <= rank(p) {
				list = append(list, held(p, a, x), held(p, a, y))
			}
		}
	}
	for _, c := range commands() {
		list = append(list, decided(c))
	}
	return list
}

func promised(p api.Stamp) api.Instance { return api.Instance{Promised: p} }

func held(p, a api.Stamp, c api.Command) api.Instance {
	return api.Instance{Promised: p, Accepted: a, Command: c}
}

func accepted(a api.Stamp, c api.Command) api.Instance { return held(a, a, c) }

func decided(c api.Command) api.Instance { return api.Instance{Command: c, Decided: true} }

// The messages that may be answered, with all that the document does not name being zero.
func promise(s, h api.Stamp, c api.Command) api.Msg {
	return api.Msg{Kind: api.MPromise, Stamp: s, Held: h, Command: c}
}

func nack(s api.Stamp) api.Msg { return api.Msg{Kind: api.MNack, Stamp: s} }

func accepts(s api.Stamp) api.Msg { return api.Msg{Kind: api.MAccepted, Stamp: s} }

func known(c api.Command) api.Msg { return api.Msg{Kind: api.MKnown, Command: c} }

// alike tells whether two messages are the same in every field; no list and an empty one are.
func alike(a, b api.Msg) bool {
	return a.Kind == b.Kind && a.From == b.From && a.To == b.To && a.Op == b.Op && a.Round == b.Round && a.Key == b.Key &&
		a.Stamp == b.Stamp && a.Held == b.Held && a.Command == b.Command && a.More == b.More &&
		len(a.Block) == 0 && len(b.Block) == 0 && len(a.Commands) == 0 && len(b.Commands) == 0 &&
		a.Bucket.Upto == b.Bucket.Upto && len(a.Bucket.Entries) == 0 && len(b.Bucket.Entries) == 0 &&
		len(a.Bucket.Lasts) == 0 && len(b.Bucket.Lasts) == 0
}

func mustPrepare(t *testing.T, i api.Instance, ballot api.Stamp, want api.Instance, m api.Msg, changed bool) {
	if got, answer, other := acceptor.Prepare(i, ballot); got != want || !alike(answer, m) || other != changed {
		t.Fatalf("Prepare(%+v, %v):\n got %+v, %+v, %v\nwant %+v, %+v, %v", i, ballot, got, answer, other, want, m, changed)
	}
}

func mustAccept(t *testing.T, i api.Instance, ballot api.Stamp, c api.Command, want api.Instance, m api.Msg, changed bool) {
	if got, answer, other := acceptor.Accept(i, ballot, c); got != want || !alike(answer, m) || other != changed {
		t.Fatalf("Accept(%+v, %v, %+v):\n got %+v, %+v, %v\nwant %+v, %+v, %v", i, ballot, c, got, answer, other, want, m, changed)
	}
}

func mustLearn(t *testing.T, i api.Instance, c api.Command, want api.Instance, changed bool) {
	if got, other := acceptor.Learned(i, c); got != want || other != changed {
		t.Fatalf("Learned(%+v, %+v):\n got %+v, %v\nwant %+v, %v", i, c, got, other, want, changed)
	}
}

var config = api.Config{Servers: []int{1, 2, 3}, F: 1, Points: 1, Buckets: 2, Block: 8, Room: 2}

// mustBeRight holds an instance against P503.
func mustBeRight(t *testing.T, i api.Instance) {
	if _, err := msg.PackInstance(i, config); err != api.OK {
		t.Fatalf("%+v: %v: no right instance", i, err)
	}
}

// mustBeAnswer holds a message, with what the server knows of it filled in, against P504.
func mustBeAnswer(t *testing.T, m api.Msg) {
	m.From, m.To = api.Addr{Id: 2}, api.Addr{Client: true, Id: 7}
	m.Op, m.Round, m.Key = 4, 1, api.Key{Kind: api.KInstance, A: 1, B: 1}
	if err := msg.Valid(m, config); err != api.OK {
		t.Fatalf("%+v: %v: no right message", m, err)
	}
}
