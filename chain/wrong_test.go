package chain_test

import (
	"math"
	"math/rand"
	"slices"
	"testing"

	"cairn/api"
	"cairn/chain"
)

// wrongNumbers has what no id, op, kind or number is, beside some that are.
func wrongNumbers() []int {
	return []int{math.MinInt, -1, 0, 1, 4, 7, 8, api.MaxId + 1, api.MaxInstance, api.MaxInstance + 1, api.MaxNum, api.MaxNum + 1, math.MaxInt}
}

func wrongCommand(r *rand.Rand) api.Command {
	n := wrongNumbers()
	c := api.Command{Kind: r.Intn(9) - 1, Client: 7, Op: 4, Name: oneOf(r, "", "plum", "a/b", "\x00"), File: file(oneOf(r, n...), 1), New: file(1, oneOf(r, n...)), Size: oneOf(r, n...)}
	switch r.Intn(3) {
	case 0:
		c.Client = oneOf(r, n...)
	case 1:
		c.Op = oneOf(r, n...)
	}
	return c
}

func wrongBucket(r *rand.Rand) api.Bucket {
	b := api.Bucket{Upto: oneOf(r, wrongNumbers()...)}
	for range r.Intn(4) {
		b.Entries = append(b.Entries, entry(oneOf(r, "", "plum", "fig", "a/b"), r.Intn(3), r.Intn(3), oneOf(r, wrongNumbers()...)))
	}
	for range r.Intn(4) {
		b.Lasts = append(b.Lasts, api.Last{Client: oneOf(r, 7, 7, 3, 0, -5, 300), Op: oneOf(r, 4, 3, 0, -1), Instance: oneOf(r, wrongNumbers()...), Err: oneOf(r, api.OK, api.ErrRoom, api.ErrWorn, -3)})
	}
	return roomyBucket(b)
}

// wrongAnswer is one to what a chain asks now, but for what stands in it.
func wrongAnswer(r *rand.Rand, c machine, op, instance int) api.Msg {
	a := ask{op, instance, c.Ballot(), c.Round()}
	m := a.answer(oneOf(r, api.MPromise, api.MNack, api.MAccepted, api.MKnown, api.MKnown, api.MBucket), oneOf(r, group()...))
	m.Stamp = stamp(a.ballot, client)
	if m.Kind == api.MNack {
		m.Stamp.N = oneOf(r, wrongNumbers()...)
	}
	m.Held, m.Command, m.Bucket = stamp(oneOf(r, wrongNumbers()...), r.Intn(9)), wrongCommand(r), wrongBucket(r)
	if r.Intn(6) == 0 {
		m.Key.B = oneOf(r, wrongNumbers()...)
	}
	return m
}

// Whatever stands in what is handed in, all calls end, and what was handed in stays.
func TestP1WhateverMayNotBe(t *testing.T) {
	t.Parallel()
	r := rand.New(rand.NewSource(5))
	n := wrongNumbers()
	for range 8000 {
		servers := roomy(oneOf(r, group(), group(), nil, []int{-1, 0, 4}, []int{4, 4, 4, 2, 9}), 5)
		wasServers := slices.Clone(servers[:cap(servers)])
		c := chain.New(oneOf(r, 7, 7, 7, oneOf(r, n...)), oneOf(r, number, number, oneOf(r, n...)), servers, oneOf(r, n...))
		for range 12 {
			own := wrongCommand(r)
			spoilMsgs(c.Begin(own, oneOf(r, 1, c.Ballot()+1, oneOf(r, n...)), oneOf(r, 1, c.Round()+1, oneOf(r, n...))))
			for range 3 {
				m := wrongAnswer(r, c, oneOf(r, own.Op, 4), c.Bucket().Upto+1)
				was := whole(m.Bucket)
				spoilMsgs(c.Take(m))
				spoilMsgs(c.Tick())
				is := toldBy(c)
				spoilBucket(is.bucket)
				spoil(is.result.List, junkEntry)
				if !sameBucket(whole(m.Bucket), was) {
					t.Fatalf("what was handed in is %+v now, its spare room too; it was %+v", whole(m.Bucket), was)
				}
			}
			if r.Intn(3) == 0 {
				newsOf(c.News())
			}
		}
		if !slices.Equal(servers[:cap(servers)], wasServers) {
			t.Fatalf("the group is %v now; it was %v", servers[:cap(servers)], wasServers)
		}
	}
}

// What is no command is never learned: what was learned stays, and x is at its end.
func TestP1NoCommandIsLearned(t *testing.T) {
	for _, wrong := range []api.Command{{}, {Kind: 8, Client: 9, Op: 1}, create(0, 1, "fig"), create(9, 0, "fig"), create(9, api.MaxNum+1, "fig")} {
		c := behind(aBucket(5))
		was := c.Bucket()
		mustPassOver(t, c, start.anew(6).known(2, wrong))
		if !sameBucket(c.Bucket(), was) {
			t.Fatalf("%+v: the bucket is %+v now", wrong, c.Bucket())
		}
		mustNews(t, c)
		mustEnd(t, c, api.Result{Err: api.ErrCommand})
	}
}

// A chain that New did not make has nobody to ask, and panics at nothing.
func TestP1AChainWithoutNew(t *testing.T) {
	c := new(chain.Chain)
	mustBe(t, c, told{})
	mustNews(t, c)
	mustTell(t, "Tick", c.Tick())
	mustPassOver(t, c, start.promise(4))
	mustTell(t, "Begin", c.Begin(x, first, round))
	mustTell(t, "Tick", c.Tick())
	mustBe(t, c, told{ballot: first, round: round})
}
