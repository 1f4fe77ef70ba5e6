package mend_test

import (
	"slices"
	"strconv"
	"testing"

	"cairn/api"
	"cairn/mend"
)

// These stand here to be compiled: the faces have these types.
var (
	_ func(from, to int, k api.Key, h mend.Held) api.Msg             = mend.Ask
	_ func(ask api.Msg, h mend.Held) api.Msg                         = mend.Have
	_ func(have api.Msg, h mend.Held) ([]mend.Change, api.Msg, bool) = mend.Take
	_                                                                = mend.Held{Block: api.Block{}, Bucket: api.Bucket{}, Row: []mend.Place{{N: 1, Instance: api.Instance{}}}}
	_                                                                = mend.Change{Key: api.Key{}, Block: api.Block{}, Instance: api.Instance{}, Bucket: api.Bucket{}}
)

const last = api.MaxInstance

var (
	none  api.Msg
	zero  api.Command
	block = api.Key{Kind: api.KBlock, A: 7, B: 2, C: 5}
	dir   = api.Key{Kind: api.KBucket, A: 3}
)

func stamp(n, client int) api.Stamp { return api.Stamp{N: n, Client: client} }

func server(id int) api.Addr { return api.Addr{Id: id} }

// at is the key of an instance of the bucket dir.
func at(n int) api.Key { return api.Key{Kind: api.KInstance, A: dir.A, B: n} }

// command is what is decided in the instance n, whoever knows it.
func command(n int) api.Command {
	if n%3 == 0 {
		return api.Command{Kind: api.CList, Client: 4, Op: n}
	}
	return api.Command{Kind: api.CCreate, Client: 1 + n%5, Op: n, Name: "f" + strconv.Itoa(n)}
}

// other is another command than what is decided there.
func other(n int) api.Command {
	return api.Command{Kind: api.CRemove, Client: 9, Op: n, Name: "other"}
}

func commands(from, to int) []api.Command {
	var list []api.Command
	for n := from; n <= to; n++ {
		list = append(list, command(n))
	}
	return list
}

func decided(n int) api.Instance { return api.Instance{Command: command(n), Decided: true} }

func accepted(n int) api.Instance {
	return api.Instance{Promised: stamp(4, 1), Accepted: stamp(3, 9), Command: other(n)}
}

// trimmed is a bucket behind upto instances, such as may be, and unlike those behind other numbers.
func trimmed(upto int) api.Bucket {
	if upto == 0 {
		return api.Bucket{}
	}
	f := api.File{Client: 1, Op: upto}
	return api.Bucket{
		Upto:    upto,
		Entries: []api.Entry{{Name: "fig", File: f, Size: 1}, {Name: "plum", File: f}},
		Lasts:   []api.Last{{Client: 1, Op: upto, Instance: upto, File: f}, {Client: 2, Op: 1, Instance: 1, Err: api.ErrRoom}},
	}
}

// held is what a server holds that has trimmed up to upto; the letters say what it holds of each instance behind that:
// D it is decided, a another command is accepted, p there is just a promise, and a dot: nothing.
func held(upto int, letters string) mend.Held {
	h := mend.Held{Bucket: trimmed(upto)}
	for i, letter := range letters {
		n := upto + 1 + i
		switch letter {
		case 'D':
			h.Row = append(h.Row, mend.Place{N: n, Instance: decided(n)})
		case 'a':
			h.Row = append(h.Row, mend.Place{N: n, Instance: accepted(n)})
		case 'p':
			h.Row = append(h.Row, mend.Place{N: n, Instance: api.Instance{Promised: stamp(2, 2)}})
		}
	}
	return h
}

func holding(s api.Stamp, data string) mend.Held {
	return mend.Held{Block: api.Block{Stamp: s, Data: []byte(data)}}
}

// asks is server 5's question to server 2 for the bucket dir, from the instance n on.
func asks(n int) api.Msg {
	return api.Msg{Kind: api.MAsk, From: server(5), To: server(2), Key: dir, Stamp: stamp(n, 0)}
}

// answers is what server 2 answers server 5 with, of the bucket dir: the commands of the instances from n on.
func answers(n int, more bool, list ...api.Command) api.Msg {
	return api.Msg{Kind: api.MHave, From: server(2), To: server(5), Key: dir, Stamp: stamp(n, 0), Commands: list, More: more}
}

func answersBucket(b api.Bucket, more bool) api.Msg {
	return api.Msg{Kind: api.MHave, From: server(2), To: server(5), Key: dir, Bucket: b, More: more}
}

func answersBlock(s api.Stamp, data string) api.Msg {
	return api.Msg{Kind: api.MHave, From: server(2), To: server(5), Key: block, Stamp: s, Block: []byte(data)}
}

// brings is a Change of the instance n of dir.
func brings(n int, c api.Command) mend.Change {
	return mend.Change{Key: at(n), Instance: api.Instance{Command: c, Decided: true}}
}

func bringsAll(from, to int) []mend.Change {
	var list []mend.Change
	for n := from; n <= to; n++ {
		list = append(list, brings(n, command(n)))
	}
	return list
}

// No list and an empty one are the same.
func sameBucket(a, b api.Bucket) bool {
	return a.Upto == b.Upto && slices.Equal(a.Entries, b.Entries) && slices.Equal(a.Lasts, b.Lasts)
}

func sameBlock(a, b api.Block) bool { return a.Stamp == b.Stamp && slices.Equal(a.Data, b.Data) }

func sameMsg(a, b api.Msg) bool {
	return a.Kind == b.Kind && a.From == b.From && a.To == b.To && a.Op == b.Op && a.Round == b.Round && a.Key == b.Key &&
		a.Stamp == b.Stamp && a.Held == b.Held && slices.Equal(a.Block, b.Block) && a.Command == b.Command &&
		sameBucket(a.Bucket, b.Bucket) && slices.Equal(a.Commands, b.Commands) && a.More == b.More
}

func sameChange(a, b mend.Change) bool {
	return a.Key == b.Key && sameBlock(a.Block, b.Block) && a.Instance == b.Instance && sameBucket(a.Bucket, b.Bucket)
}

func sameChanges(a, b []mend.Change) bool { return slices.EqualFunc(a, b, sameChange) }

func sameHeld(a, b mend.Held) bool {
	return sameBlock(a.Block, b.Block) && sameBucket(a.Bucket, b.Bucket) && slices.Equal(a.Row, b.Row)
}

func mustAsk(t *testing.T, k api.Key, h mend.Held, want api.Msg) {
	t.Helper()
	if got := mend.Ask(5, 2, k, h); !sameMsg(got, want) {
		t.Fatalf("Ask(5, 2, %+v, %+v):\n got %+v\nwant %+v", k, h, got, want)
	}
}

func mustHave(t *testing.T, ask api.Msg, h mend.Held, want api.Msg) {
	if got := mend.Have(ask, h); !sameMsg(got, want) {
		t.Helper()
		t.Fatalf("Have(%+v, %+v):\n got %+v\nwant %+v", ask, h, got, want)
	}
}

// mustTake looks that an answer brings these Changes, and that nothing more is asked.
func mustTake(t *testing.T, have api.Msg, h mend.Held, want ...mend.Change) {
	t.Helper()
	mustTakeAndAsk(t, have, h, want, none)
}

// mustTakeAndAsk looks that an answer brings these Changes, and that the next question is this one.
func mustTakeAndAsk(t *testing.T, have api.Msg, h mend.Held, want []mend.Change, next api.Msg) {
	list, ask, more := mend.Take(have, h)
	if !sameChanges(list, want) || !sameMsg(ask, next) || more != (next.Kind != 0) {
		t.Helper()
		t.Fatalf("Take(%+v, %+v):\n got %+v, %+v, %v\nwant %+v, %+v", have, h, list, ask, more, want, next)
	}
}

// lay lays Changes down, as a server does: behind a bucket it holds no instance up to its Upto.
func lay(h mend.Held, list []mend.Change) mend.Held {
	h.Row = slices.Clone(h.Row)
	for _, c := range list {
		switch c.Key.Kind {
		case api.KBlock:
			h.Block = c.Block
		case api.KBucket:
			h.Bucket = c.Bucket
			h.Row = slices.DeleteFunc(h.Row, func(p mend.Place) bool { return p.N <= c.Bucket.Upto })
		case api.KInstance:
			i, there := slices.BinarySearchFunc(h.Row, c.Key.B, func(p mend.Place, n int) int { return p.N - n })
			if !there {
				h.Row = slices.Insert(h.Row, i, mend.Place{N: c.Key.B})
			}
			h.Row[i].Instance = c.Instance
		}
	}
	return h
}

// helds are those of every row of so many letters or fewer behind Upto numbers from low on.
func helds(low, high, letters int) []mend.Held {
	var all []mend.Held
	for upto := low; upto <= high; upto++ {
		for _, row := range words("Da.", letters) {
			if upto+len(row) <= last {
				all = append(all, held(upto, row))
			}
		}
	}
	return all
}

// words are all of these letters, up to a length; none ends with a dot, which would say nothing.
func words(letters string, length int) []string {
	all, newest := []string{""}, []string{""}
	for range length {
		var next []string
		for _, w := range newest {
			for _, letter := range letters {
				next = append(next, w+string(letter))
			}
		}
		newest = next
		for _, w := range next {
			if w[len(w)-1] != '.' {
				all = append(all, w)
			}
		}
	}
	return all
}
