package chain_test

import (
	"testing"

	"cairn/api"
	"cairn/chain"
)

// The chapter's examples are of the group 1, 2, 3; all else is as in the other tests.
func ofExamples(t *testing.T) *chain.Chain {
	c := chain.New(7, 2, []int{1, 2, 3}, 4)
	mustTell(t, "Begin", c.Begin(x, 3, 10), toThree(3, start, none)...)
	return c
}

// toThree are a chain's messages of a kind to 1, 2, 3: all but MLearned bear the ballot.
func toThree(kind int, a ask, c api.Command) []api.Msg {
	s := stamp(a.ballot, 7)
	if kind == api.MLearned {
		s = stamp(0, 0)
	}
	return a.tells(kind, s, c, 1, 2, 3)
}

func TestExample1(t *testing.T) {
	c := ofExamples(t)
	mustPassOver(t, c, start.promise(1))
	mustTell(t, "the second promise", c.Take(start.promise(2)), toThree(api.MAccept, ask{4, 1, 3, 11}, x)...)
	mustPassOver(t, c, start.second().accepted(1))
	mustTell(t, "the second acceptance", c.Take(start.second().accepted(3)), toThree(api.MLearned, ask{4, 1, 3, 11}, x)...)
	mustNews(t, c, item{1, x})
	mustReach(t, c, 3, 11)
	mustEnd(t, c, api.Result{Entry: api.Entry{Name: "plum", File: api.File{Client: 7, Op: 4}}, Instance: 1})
}

func TestExample2(t *testing.T) {
	c := ofExamples(t)
	mustTell(t, "MKnown", c.Take(start.known(2, y)), toThree(api.MPrepare, ask{4, 2, 4, 11}, none)...)
	if b := c.Bucket(); b.Upto != 1 || len(b.Entries) != 1 || b.Entries[0] != entry("fig", 9, 1, 0) {
		t.Fatalf("%+v", b)
	}
	mustReach(t, c, 4, 11)
}

func TestExample3(t *testing.T) {
	c := ofExamples(t)
	mustPassOver(t, c, start.holding(1, stamp(2, 9), y))
	mustTell(t, "the second promise", c.Take(start.promise(3)), toThree(api.MAccept, ask{4, 1, 3, 11}, y)...)
	mustPassOver(t, c, start.second().accepted(3))
	mustTell(t, "the second acceptance", c.Take(start.second().accepted(2)),
		both(toThree(api.MLearned, ask{4, 1, 3, 11}, y), toThree(api.MPrepare, ask{4, 2, 4, 12}, none))...)
}

func TestExample4(t *testing.T) {
	c := ofExamples(t)
	b := api.Bucket{Upto: 5, Lasts: []api.Last{{Client: 7, Op: 4, Instance: 3, Err: api.ErrExists, File: file(9, 1)}}}
	mustPassOver(t, c, start.trimmed(3, b))
	mustEnd(t, c, api.Result{Err: api.ErrExists, Entry: entry("plum", 9, 1, 0), Instance: 3})
	for _, lasts := range [][]api.Last{nil, {{Client: 7, Op: 3, Instance: 3, Err: api.ErrExists, File: file(9, 1)}}} {
		c = ofExamples(t)
		mustTell(t, "MBucket", c.Take(start.trimmed(3, api.Bucket{Upto: 5, Lasts: lasts})), toThree(api.MPrepare, ask{4, 6, 4, 11}, none)...)
	}
}

func TestExample5(t *testing.T) {
	c := ofExamples(t)
	mustTell(t, "a second Begin", c.Begin(x, 9, 20))
	mustGoOn(t, c, start)
	c = chain.New(7, 2, []int{1, 2, 3}, 4)
	mustTell(t, "Tick ahead of all", c.Tick())
	mustPassOver(t, c, start.promise(1), start.known(2, y))
	mustTell(t, "Begin with ballot 0", c.Begin(x, 0, 1))
	mustEnd(t, c, api.Result{Err: api.ErrWorn})
}
