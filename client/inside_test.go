package client

import (
	"slices"
	"testing"

	"cairn/api"
	"cairn/msg"
)

// Numbers that no test can bring to their end by what it hands in are put there.

var config = api.Config{Servers: []int{30, 10, 20}, F: 1, Points: 2, Buckets: 4, Block: 8, Room: 2}

func fresh(t *testing.T) *Client {
	t.Helper()
	c, err := New(config, 5)
	if err != api.OK {
		t.Fatal(err)
	}
	return c
}

// sent are the messages of packets.
func sent(t *testing.T, list []api.Packet) []api.Msg {
	t.Helper()
	var all []api.Msg
	for _, p := range list {
		m, err := msg.Decode(p.Data, config)
		if err != api.OK {
			t.Fatal(err)
		}
		all = append(all, m)
	}
	return all
}

// mustAsk: three messages of this kind, op, round and ballot.
func mustAsk(t *testing.T, list []api.Packet, kind, op, round, ballot int) api.Msg {
	t.Helper()
	all := sent(t, list)
	if len(all) != 3 || all[0].Kind != kind || all[0].Op != op || all[0].Round != round || kind != api.MPut && all[0].Stamp.N != ballot {
		t.Fatalf("%+v", all)
	}
	return all[0]
}

// answer hands in an answer of each of two servers, and tells what was sent.
func answer(t *testing.T, c *Client, to, a api.Msg) []api.Packet {
	t.Helper()
	var list []api.Packet
	for _, id := range []int{10, 20} {
		a.From, a.To, a.Op, a.Round, a.Key = api.Addr{Id: id}, to.From, to.Op, to.Round, to.Key
		data, err := msg.Encode(a, config)
		if err != api.OK {
			t.Fatalf("%+v: %v", a, err)
		}
		list = append(list, c.Step(data)...)
	}
	return list
}

func mustWear(t *testing.T, c *Client, list []api.Packet, number int) {
	t.Helper()
	r, done := c.Done()
	plain := r.Entry == api.Entry{} && len(r.List)+len(r.Data) == 0 && r.N == 0 && r.Stamp == api.Stamp{} && r.Instance == 0
	if len(list) > 0 || !done || c.Pending() || r.Err != api.ErrWorn || !plain || c.Number() != number {
		t.Fatalf("%v, %+v, %v, number %d", list, r, done, c.Number())
	}
	if len(c.Tick()) > 0 {
		t.Fatal("Tick sends")
	}
}

var (
	read   = api.Op{Kind: api.ORead, File: api.File{Client: 5, Op: 1}}
	write  = api.Op{Kind: api.OWrite, File: api.File{Client: 5, Op: 1}, Data: []byte("8 bytes.")}
	create = api.Op{Kind: api.OCreate, Name: "plum"}
	zeros  = api.Msg{Kind: api.MValue, Block: make([]byte, 8)}
)

func invoke(t *testing.T, c *Client, o api.Op) []api.Packet {
	t.Helper()
	list, err := c.Invoke(o)
	if err != api.OK {
		t.Fatalf("%+v: %v", o, err)
	}
	return list
}

// The last number that there is may be used; behind it ErrWorn, ahead of what is wrong in what the kind names, behind what it does not name.
func TestP1402NumberAtItsEnd(t *testing.T) {
	c := fresh(t)
	c.number = api.MaxNum - 1
	m := mustAsk(t, invoke(t, c, read), api.MQuery, api.MaxNum, 1, 0)
	if _, err := c.Invoke(read); err != api.ErrBusy {
		t.Errorf("%v", err)
	}
	answer(t, c, m, zeros)
	want, done := c.Done()
	if !done || c.Number() != api.MaxNum {
		t.Fatalf("%v, %d", done, c.Number())
	}
	for _, x := range []struct {
		o    api.Op
		want api.Errno
	}{
		{read, api.ErrWorn}, {write, api.ErrWorn}, {create, api.ErrWorn}, {api.Op{Kind: api.OList}, api.ErrWorn},
		{api.Op{Kind: api.OCreate, Name: "a/b"}, api.ErrWorn}, {api.Op{Kind: api.ORead}, api.ErrWorn}, {api.Op{Kind: api.OList, N: -1}, api.ErrWorn}, {api.Op{Kind: api.OWrite}, api.ErrWorn},
		{api.Op{Kind: api.OCreate, Name: "plum", N: 1}, api.ErrOp}, {api.Op{Kind: api.OReadAt, Name: "plum"}, api.ErrOp}, {api.Op{}, api.ErrOp},
	} {
		if list, err := c.Invoke(x.o); err != x.want || len(list) > 0 || c.Number() != api.MaxNum || c.Pending() || c.round != 1 || c.ballot != 0 {
			t.Errorf("%+v: %v, %v, not %v", x.o, list, err, x.want)
		}
		if r, done := c.Done(); !done || !slices.Equal(r.Data, want.Data) {
			t.Errorf("%+v, %v", r, done)
		}
	}
	c.Stop()
	if _, err := c.Invoke(read); err != api.ErrFallen {
		t.Errorf("%v", err)
	}
}

// In the last round a first phase may be asked, and nothing behind it.
func TestP1405RoundAtItsEnd(t *testing.T) {
	for _, o := range []api.Op{write, create} {
		c := fresh(t)
		c.round = api.MaxNum - 2
		if o.Kind == api.OWrite {
			m := mustAsk(t, invoke(t, c, o), api.MQuery, 1, api.MaxNum-1, 0)
			m = mustAsk(t, answer(t, c, m, zeros), api.MPut, 1, api.MaxNum, 0)
			answer(t, c, m, api.Msg{Kind: api.MAck})
		} else {
			m := mustAsk(t, invoke(t, c, o), api.MPrepare, 1, api.MaxNum-1, 1)
			m = mustAsk(t, answer(t, c, m, api.Msg{Kind: api.MPromise, Stamp: m.Stamp}), api.MAccept, 1, api.MaxNum, 1)
			mustAsk(t, answer(t, c, m, api.Msg{Kind: api.MAccepted, Stamp: m.Stamp}), api.MLearned, 1, api.MaxNum, 0)
		}
		if r, done := c.Done(); !done || r.Err != api.OK {
			t.Fatalf("%+v, %v", r, done)
		}
		c = fresh(t)
		c.round = api.MaxNum - 1
		list := invoke(t, c, o)
		if o.Kind == api.OWrite {
			mustWear(t, c, answer(t, c, mustAsk(t, list, api.MQuery, 1, api.MaxNum, 0), zeros), 1)
		} else {
			m := mustAsk(t, list, api.MPrepare, 1, api.MaxNum, 1)
			mustWear(t, c, answer(t, c, m, api.Msg{Kind: api.MPromise, Stamp: m.Stamp}), 1)
		}
		// None is left: whatever comes returns with its Invoke.
		for n := 2; n <= 9; n++ {
			mustWear(t, c, invoke(t, c, []api.Op{read, write, create, {Kind: api.OList, N: n % 4}}[n%4]), n)
		}
	}
	c := fresh(t)
	c.round = api.MaxNum - 1
	answer(t, c, mustAsk(t, invoke(t, c, read), api.MQuery, 1, api.MaxNum, 0), zeros) // a read that needs one phase has its answer
	if r, done := c.Done(); !done || r.Err != api.OK || len(r.Data) != 8 {
		t.Errorf("%+v, %v", r, done)
	}
	mustWear(t, c, invoke(t, c, read), 2)
}

// A command whose first instance is another's needs a new ballot and a new round.
func TestP1405BallotAtItsEnd(t *testing.T) {
	c := fresh(t)
	c.ballot = api.MaxNum - 1
	m := mustAsk(t, invoke(t, c, create), api.MPrepare, 1, 1, api.MaxNum)
	other := api.Command{Kind: api.CList, Client: 9, Op: 9}
	mustWear(t, c, answer(t, c, m, api.Msg{Kind: api.MKnown, Command: other}), 1)
	for k, x := range c.News() {
		if k != (api.Key{Kind: api.KInstance, A: 3, B: 1}) || x != other {
			t.Errorf("%v, %v", k, x)
		}
	}
	mustWear(t, c, invoke(t, c, api.Op{Kind: api.OList, N: 1}), 2)
	mustAsk(t, invoke(t, c, read), api.MQuery, 3, 4, 0) // the rounds of those that had no ballot were told
}

// What is refused makes no chain, and leaves the numbers as they are; what is not makes one chain a bucket.
func TestP1403ChainsAreKept(t *testing.T) {
	c := fresh(t)
	for _, o := range []api.Op{{Kind: api.OCreate, Name: "a/b"}, {Kind: api.OList, N: 4}, {Kind: api.OGrow, Name: "plum"}} {
		if _, err := c.Invoke(o); err == api.OK || len(c.chains) > 0 || c.by != nil || c.round+c.ballot+c.number > 0 {
			t.Errorf("%+v: %v", o, err)
		}
	}
	for n := 1; n <= 8; n++ {
		m := mustAsk(t, invoke(t, c, api.Op{Kind: api.OList, N: n % 4}), api.MPrepare, n, n, n)
		own := api.Command{Kind: api.CList, Client: 5, Op: n}
		answer(t, c, m, api.Msg{Kind: api.MKnown, Command: own})
		if c.Pending() || len(c.chains) != min(n, 4) || m.Key.B != (n+3)/4 {
			t.Fatalf("%d: %d chains, %+v", n, len(c.chains), m)
		}
	}
}

// Ways: what an operation is done by is of the type that its kind asks for.
func TestWaysTypes(t *testing.T) {
	for kind := api.OCreate; kind <= api.OWrite; kind++ {
		c := fresh(t)
		o := api.Op{Kind: kind}
		for _, f := range fieldsOf(kind) {
			switch f {
			case nameField:
				o.Name = "plum"
			case fileField:
				o.File = read.File
			case newField:
				o.New = read.File
			case dataField:
				o.Data = write.Data
			}
		}
		invoke(t, c, o)
		_, isBlock := c.by.(block)
		_, isDirectory := c.by.(directory)
		if blocks := kind == api.ORead || kind == api.OWrite; isBlock != blocks || isDirectory == blocks {
			t.Errorf("%d: %T", kind, c.by)
		}
	}
}
