package acceptor_test

import (
	"math"
	"strings"
	"testing"

	"cairn/acceptor"
	"cairn/api"
)

// Numbers that no stamp, id or size has, beside some that they have.
func numbers() []int {
	return []int{math.MinInt, -1, 0, 1, api.MaxId + 1, api.MaxNum + 1, math.MaxInt}
}

// wrongInstances may not be (P503): a command without a ballot, a ballot without a command, a decision beside ballots, numbers beyond their ends.
func wrongInstances() []api.Instance {
	odd := api.Command{Kind: -3, Client: 999, Op: math.MinInt, Name: strings.Repeat("/", 300), Size: -1}
	list := []api.Instance{
		{Command: x}, {Promised: stamp(3, 7), Command: x}, accepted(stamp(3, 7), nothing), accepted(stamp(3, 7), odd),
		{Accepted: stamp(3, 7), Command: x}, held(stamp(3, 7), stamp(3, 8), x), {Decided: true}, decided(odd),
		{Promised: stamp(3, 7), Accepted: stamp(2, 1), Command: x, Decided: true},
	}
	for _, n := range numbers() {
		for _, client := range numbers() {
			list = append(list, promised(stamp(n, client)), accepted(stamp(n, client), x))
		}
	}
	return list
}

func TestP1WhateverMayNotBe(t *testing.T) {
	wrong := []api.Command{nothing, x, {Kind: 99, Client: -1, Op: math.MaxInt, Name: strings.Repeat("\x00", 1000), Size: math.MinInt}}
	for _, i := range wrongInstances() {
		for _, n := range numbers() {
			for _, client := range numbers() {
				acceptor.Prepare(i, stamp(n, client))
				for _, c := range wrong {
					acceptor.Accept(i, stamp(n, client), c)
				}
			}
		}
		for _, c := range wrong {
			acceptor.Learned(i, c)
		}
	}
}

// The lists of an answered message are empty: there is no memory in it that could be another's.
func TestP2AnswersHoldNoList(t *testing.T) {
	for _, i := range append(instances(), wrongInstances()...) {
		for _, b := range append(ballots(), none, stamp(-1, -1)) {
			_, first, _ := acceptor.Prepare(i, b)
			_, second, _ := acceptor.Accept(i, b, y)
			for _, m := range []api.Msg{first, second} {
				if cap(m.Block)+cap(m.Commands)+cap(m.Bucket.Entries)+cap(m.Bucket.Lasts) != 0 {
					t.Fatalf("%+v, %v: lists in %+v", i, b, m)
				}
			}
		}
	}
}

// What is done with an answer is not seen by the next asker.
func TestP2AnswersAreTheAskersOwn(t *testing.T) {
	i := accepted(stamp(3, 7), x)
	got, m, _ := acceptor.Prepare(i, stamp(4, 1))
	got.Command.Name, m.Command.Name, m.Held.N, got.Promised.N = "other", "other", 99, 99
	mustPrepare(t, i, stamp(4, 1), held(stamp(4, 1), stamp(3, 7), x), promise(stamp(4, 1), stamp(3, 7), x), true)
	if i != accepted(stamp(3, 7), x) {
		t.Fatalf("what was handed in is %+v", i)
	}
}
