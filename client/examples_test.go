package client_test

import (
	"testing"

	"cairn/api"
	"cairn/client"
)

// plum is what example 1 asks, and as a command.
var (
	plum        = ask{op: 1, round: 1, ballot: 1, key: api.Key{Kind: api.KInstance, A: 3, B: 1}}
	plumCommand = api.Command{Kind: api.CCreate, Client: me, Op: 1, Name: "plum"}
)

func example1(t *testing.T) *client.Client {
	t.Helper()
	c := fresh(t)
	mustInvoke(t, c, create("plum"), plum.prepares(20, 30, 10)...)
	if c.Number() != 1 || !c.Pending() {
		t.Fatalf("the number %d, pending %v", c.Number(), c.Pending())
	}
	mustRefuse(t, c, create("plum"), api.ErrBusy)
	return c
}

func example2(t *testing.T) *client.Client {
	t.Helper()
	c := example1(t)
	mustPassOver(t, c, plum.promise(30))
	mustStep(t, c, plum.promise(10), plum.second().accepts(plumCommand, 20, 30, 10)...)
	mustPassOver(t, c, plum.second().accepted(20))
	mustStep(t, c, plum.second().accepted(10), plum.second().learned(plumCommand, 20, 30, 10)...)
	mustReturn(t, c, api.Result{Entry: entry("plum", file(5, 1), 0), Instance: 1})
	return c
}

func TestExample1(t *testing.T) { example1(t) }

func TestExample2(t *testing.T) {
	c := example2(t)
	mustNews(t, c, item{at(3, 1), plumCommand})
}

func TestExample3(t *testing.T) {
	c := example2(t)
	mustRefuse(t, c, list(4), api.ErrBucket)
	mustRefuse(t, c, read(file(0, 1), 0), api.ErrArg)
	mustRefuse(t, c, write(file(5, 1), 0, "7 bytes"), api.ErrBlock)
	mustRefuse(t, c, api.Op{Kind: api.OLookup, Name: "plum", N: 1}, api.ErrOp)
	mustRefuse(t, c, api.Op{Kind: api.OReadAt, Name: "plum", At: 3, N: 2}, api.ErrOp)
	mustRefuse(t, c, setSize("a/b", file(0, 0), -1), api.ErrName)
	k := block(file(5, 1), 0)
	a := ask{op: 2, round: 3, key: k}
	mustInvoke(t, c, read(file(5, 1), 0), a.queries(groupOf(four(), k)...)...)
}

func TestExample4(t *testing.T) {
	c := example1(t)
	c.Stop()
	for _, o := range append(ofEachKind(four()), api.Op{Kind: api.OReadAt, Name: "plum", N: 3}, api.Op{}, list(4)) {
		mustRefuse(t, c, o, api.ErrFallen)
	}
	mustPassOver(t, c, plum.promise(30), plum.promise(10), plum.promise(20))
	mustTick(t, c)
}
