package mend_test

import (
	"math"
	"math/rand"
	"slices"
	"strings"
	"testing"

	"cairn/api"
	"cairn/mend"
)

func oneOf[T any](r *rand.Rand, list ...T) T { return list[r.Intn(len(list))] }

// aNumber is one at whose sides something ends, or any other.
func aNumber(r *rand.Rand) int {
	return oneOf(r, math.MinInt, math.MinInt+1, -64, -1, 0, 1, 2, 3, 4, 5, 63, 64, 65, last-64, last-1, last, last+1, last+2, math.MaxInt-64, math.MaxInt-1, math.MaxInt, r.Int())
}

func aStamp(r *rand.Rand) api.Stamp { return stamp(aNumber(r), aNumber(r)) }

func aCommand(r *rand.Rand) api.Command {
	return oneOf(r, zero, command(1+r.Intn(9)), api.Command{Kind: aNumber(r), Client: aNumber(r), Op: aNumber(r), Name: strings.Repeat("/", r.Intn(300)), Size: aNumber(r)})
}

func aBucket(r *rand.Rand) api.Bucket {
	b := oneOf(r, api.Bucket{}, trimmed(3), api.Bucket{Entries: []api.Entry{{Name: "z"}, {Name: "a", Size: -1}, {}}, Lasts: []api.Last{{Client: -1}, {Client: -1}}})
	if r.Intn(2) == 0 {
		b.Upto = aNumber(r)
	}
	return b
}

// wrongHeld may not be, as a rule: rows that fall, with numbers twice and beyond their ends, decided ones without a command or with stamps, a bucket without Upto.
func wrongHeld(r *rand.Rand) mend.Held {
	h := mend.Held{Block: api.Block{Stamp: aStamp(r), Data: make([]byte, r.Intn(9))}, Bucket: aBucket(r)}
	n := aNumber(r)
	for range r.Intn(90) {
		n = oneOf(r, n+1, n+1, n+1, n, n-1, aNumber(r))
		h.Row = append(h.Row, mend.Place{N: n, Instance: api.Instance{Promised: aStamp(r), Accepted: aStamp(r), Command: aCommand(r), Decided: r.Intn(4) > 0}})
	}
	return h
}

func wrongMsg(r *rand.Rand) api.Msg {
	m := api.Msg{
		Kind: oneOf(r, api.MAsk, api.MHave, aNumber(r)), From: api.Addr{Client: r.Intn(2) == 0, Id: aNumber(r)}, To: server(aNumber(r)), Op: aNumber(r), Round: aNumber(r),
		Key:   api.Key{Kind: oneOf(r, api.KBlock, api.KBucket, api.KBucket, aNumber(r)), A: aNumber(r), B: aNumber(r), C: aNumber(r)},
		Stamp: aStamp(r), Held: aStamp(r), Block: make([]byte, r.Intn(9)), Command: aCommand(r), Bucket: oneOf(r, api.Bucket{}, aBucket(r)), More: r.Intn(2) == 0,
	}
	for range r.Intn(70) {
		m.Commands = append(m.Commands, aCommand(r))
	}
	return m
}

// Whatever is handed in, all calls end, and what was handed in stays, its spare room too.
func TestP1WhateverMayNotBe(t *testing.T) {
	t.Parallel()
	r := rand.New(rand.NewSource(5))
	for range 6000 {
		h, m := roomyHeld(wrongHeld(r)), roomyMsg(wrongMsg(r))
		was, wasMsg := wholeHeld(h), wholeMsg(m)
		spoilMsg(mend.Ask(aNumber(r), aNumber(r), m.Key, h))
		spoilMsg(mend.Have(m, h))
		list, next, _ := mend.Take(m, h)
		spoilChanges(list)
		spoilMsg(next)
		if !sameHeld(wholeHeld(h), was) || !sameMsg(wholeMsg(m), wasMsg) {
			t.Fatalf("%+v, %+v: changed", h, m)
		}
	}
}

// A question and an answer that a wrong one makes are told of as the chapter says by one that may be.
func TestP1202AnyMessage(t *testing.T) {
	t.Parallel()
	r := rand.New(rand.NewSource(3))
	for range 6000 {
		h := aRow(r, anUpto(r, 9), 12, 0.6)
		mustBePlain(t, h, []api.Msg{wrongMsg(r)}, []api.Msg{wrongMsg(r)})
	}
}

// The greatest row that may be.
func TestP1AFullRow(t *testing.T) {
	h := mend.Held{Row: make([]mend.Place, last)}
	for i := range h.Row {
		h.Row[i] = mend.Place{N: i + 1, Instance: api.Instance{Command: api.Command{Kind: api.CList, Client: 1, Op: i + 1}, Decided: true}}
	}
	if got := mend.Ask(5, 2, dir, h); !sameMsg(got, asks(last+1)) {
		t.Errorf("Ask: %+v", got)
	}
	for _, have := range []api.Msg{answersBucket(trimmed(last), false), answers(last, false, command(last), command(1))} {
		if list, next, more := mend.Take(have, h); len(list) > 0 || more {
			t.Errorf("Take(%+v, ..): %+v, %+v", have, list, next)
		}
	}
	for n, more := range map[int]bool{1: true, last - 64: true, last - 63: false} {
		if got := mend.Have(asks(n), h); len(got.Commands) != 64 || got.More != more || got.Commands[0].Op != n || got.Commands[63].Op != n+63 {
			t.Errorf("Have: %+v", got)
		}
	}
}

// The same is told again, whatever was asked between.
func TestP3TheSameAgain(t *testing.T) {
	r := rand.New(rand.NewSource(4))
	for range 500 {
		h, m := aRow(r, anUpto(r, 9), 90, 0.8), oneOf(r, append(questions(), replies()...)...)
		ask, have := mend.Ask(5, 2, dir, h), mend.Have(m, h)
		list, next, more := mend.Take(m, h)
		o, om := wrongHeld(r), wrongMsg(r)
		mend.Ask(2, 5, om.Key, o)
		mend.Have(om, o)
		mend.Take(om, o)
		h.Row = slices.Clone(h.Row)
		mustAsk(t, dir, h, ask)
		mustHave(t, m, h, have)
		mustTakeAndAsk(t, m, h, list, next)
		if more != (next.Kind != 0) {
			t.Fatalf("%+v, %v", next, more)
		}
	}
}
