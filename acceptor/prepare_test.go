package acceptor_test

import (
	"testing"

	"cairn/api"
)

func TestP801ZeroInstance(t *testing.T) {
	for _, b := range ballots() {
		mustPrepare(t, zero, b, promised(b), promise(b, none, nothing), true)
	}
}

func TestP801BelowThePromise(t *testing.T) {
	for _, i := range []api.Instance{promised(stamp(3, 7)), accepted(stamp(3, 7), x), held(stamp(3, 7), stamp(2, 200), y)} {
		for _, b := range []api.Stamp{stamp(3, 6), stamp(3, 1), stamp(2, 7), stamp(2, 8), stamp(2, 255), stamp(1, 1)} {
			mustPrepare(t, i, b, i, nack(stamp(3, 7)), false)
		}
	}
}

// A ballot between what was accepted and what is promised is below the promise all the same.
func TestP801BetweenAcceptedAndPromised(t *testing.T) {
	i := held(stamp(5, 2), stamp(3, 7), x)
	for _, b := range []api.Stamp{stamp(3, 7), stamp(3, 8), stamp(4, 255), stamp(5, 1)} {
		mustPrepare(t, i, b, i, nack(stamp(5, 2)), false)
	}
}

func TestP801PromisedAgain(t *testing.T) {
	for _, b := range ballots() {
		mustPrepare(t, promised(b), b, promised(b), promise(b, none, nothing), false)
		mustPrepare(t, accepted(b, x), b, accepted(b, x), promise(b, b, x), false)
	}
	i := held(stamp(5, 2), stamp(3, 7), x)
	mustPrepare(t, i, stamp(5, 2), i, promise(stamp(5, 2), stamp(3, 7), x), false)
}

func TestP801AboveThePromise(t *testing.T) {
	for _, b := range []api.Stamp{stamp(3, 8), stamp(3, 255), stamp(4, 1), stamp(4, 7), stamp(api.MaxNum, 255)} {
		mustPrepare(t, promised(stamp(3, 7)), b, promised(b), promise(b, none, nothing), true)
		mustPrepare(t, accepted(stamp(3, 7), y), b, held(b, stamp(3, 7), y), promise(b, stamp(3, 7), y), true)
		mustPrepare(t, held(stamp(3, 7), stamp(1, 9), y), b, held(b, stamp(1, 9), y), promise(b, stamp(1, 9), y), true)
	}
}

func TestP801TellsEveryCommand(t *testing.T) {
	for _, c := range commands() {
		mustPrepare(t, accepted(stamp(3, 7), c), stamp(4, 1), held(stamp(4, 1), stamp(3, 7), c), promise(stamp(4, 1), stamp(3, 7), c), true)
		mustPrepare(t, decided(c), stamp(4, 1), decided(c), known(c), false)
	}
}

func TestP801Decided(t *testing.T) {
	for _, b := range ballots() {
		mustPrepare(t, decided(x), b, decided(x), known(x), false)
	}
}

// modelPrepare says P801 once more, plainly.
func modelPrepare(i api.Instance, ballot api.Stamp) (api.Instance, api.Msg, bool) {
	switch {
	case i.Decided:
		return i, known(i.Command), false
	case rank(ballot) < rank(i.Promised):
		return i, nack(i.Promised), false
	case rank(ballot) == rank(i.Promised):
		return i, promise(ballot, i.Accepted, i.Command), false
	}
	return held(ballot, i.Accepted, i.Command), promise(ballot, i.Accepted, i.Command), true
}

func TestP801EveryPair(t *testing.T) {
	for _, i := range instances() {
		for _, b := range ballots() {
			want, m, changed := modelPrepare(i, b)
			mustPrepare(t, i, b, want, m, changed)
		}
	}
}
