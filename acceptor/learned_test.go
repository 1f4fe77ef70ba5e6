package acceptor_test

import (
	"testing"

	"cairn/api"
)

func TestP803ZeroInstance(t *testing.T) {
	for _, c := range commands() {
		mustLearn(t, zero, c, decided(c), true)
	}
}

func TestP803Promised(t *testing.T) {
	for _, b := range ballots() {
		mustLearn(t, promised(b), x, decided(x), true)
	}
}

func TestP803WhatWasAccepted(t *testing.T) {
	for _, c := range commands() {
		mustLearn(t, accepted(stamp(3, 7), c), c, decided(c), true)
		mustLearn(t, held(stamp(5, 2), stamp(3, 7), c), c, decided(c), true)
	}
}

func TestP803AnotherThanWasAccepted(t *testing.T) {
	for _, c := range append(nearX(), y, z) {
		mustLearn(t, accepted(stamp(3, 7), x), c, decided(c), true)
		mustLearn(t, held(stamp(5, 2), stamp(3, 7), x), c, decided(c), true)
	}
}

func TestP803OnceMore(t *testing.T) {
	for _, c := range commands() {
		mustLearn(t, decided(c), c, decided(c), false)
		mustLearn(t, decided(x), c, decided(x), false)
		mustLearn(t, decided(c), y, decided(c), false)
	}
}

// modelLearned says P803 once more, plainly.
func modelLearned(i api.Instance, c api.Command) (api.Instance, bool) {
	if i.Decided {
		return i, false
	}
	return decided(c), true
}

func TestP803EveryPair(t *testing.T) {
	for _, i := range instances() {
		for _, c := range commands() {
			want, changed := modelLearned(i, c)
			mustLearn(t, i, c, want, changed)
		}
	}
}
