package acceptor_test

import (
	"testing"

	"cairn/api"
)

func TestP802ZeroInstance(t *testing.T) {
	for _, b := range ballots() {
		for _, c := range commands() {
			mustAccept(t, zero, b, c, accepted(b, c), accepts(b), true)
		}
	}
}

func TestP802BelowThePromise(t *testing.T) {
	for _, i := range []api.Instance{promised(stamp(3, 7)), accepted(stamp(3, 7), x), held(stamp(3, 7), stamp(2, 200), y)} {
		for _, b := range []api.Stamp{stamp(3, 6), stamp(3, 1), stamp(2, 7), stamp(2, 8), stamp(2, 255), stamp(1, 1)} {
			mustAccept(t, i, b, y, i, nack(stamp(3, 7)), false)
			mustAccept(t, i, b, x, i, nack(stamp(3, 7)), false)
		}
	}
}

// What was accepted ahead of a promise of a greater ballot is not accepted again.
func TestP802BetweenAcceptedAndPromised(t *testing.T) {
	i := held(stamp(5, 2), stamp(3, 7), x)
	for _, b := range []api.Stamp{stamp(3, 7), stamp(3, 8), stamp(4, 255), stamp(5, 1)} {
		mustAccept(t, i, b, x, i, nack(stamp(5, 2)), false)
		mustAccept(t, i, b, y, i, nack(stamp(5, 2)), false)
	}
}

func TestP802TheBallotThatIsPromised(t *testing.T) {
	for _, b := range ballots() {
		mustAccept(t, promised(b), b, x, accepted(b, x), accepts(b), true)
	}
	mustAccept(t, held(stamp(5, 2), stamp(3, 7), x), stamp(5, 2), x, accepted(stamp(5, 2), x), accepts(stamp(5, 2)), true)
	mustAccept(t, held(stamp(5, 2), stamp(3, 7), x), stamp(5, 2), y, accepted(stamp(5, 2), y), accepts(stamp(5, 2)), true)
}

func TestP802AboveThePromise(t *testing.T) {
	for _, b := range []api.Stamp{stamp(3, 8), stamp(3, 255), stamp(4, 1), stamp(4, 7), stamp(api.MaxNum, 255)} {
		mustAccept(t, promised(stamp(3, 7)), b, x, accepted(b, x), accepts(b), true)
		mustAccept(t, accepted(stamp(3, 7), y), b, x, accepted(b, x), accepts(b), true)
		mustAccept(t, accepted(stamp(3, 7), x), b, x, accepted(b, x), accepts(b), true)
		mustAccept(t, held(stamp(3, 7), stamp(1, 9), y), b, x, accepted(b, x), accepts(b), true)
	}
}

func TestP802AcceptedAgain(t *testing.T) {
	for _, b := range ballots() {
		for _, c := range commands() {
			mustAccept(t, accepted(b, c), b, c, accepted(b, c), accepts(b), false)
		}
	}
}

// A name that is made anew is the same name: the texts count, not where they lie.
func TestP802AcceptedAgainWithItsNameMadeAnew(t *testing.T) {
	c := x
	c.Name = string([]byte("plum"))
	mustAccept(t, accepted(stamp(3, 7), x), stamp(3, 7), c, accepted(stamp(3, 7), x), accepts(stamp(3, 7)), false)
}

func TestP802SameBallotOtherCommand(t *testing.T) {
	for _, c := range append(nearX(), y, z) {
		mustAccept(t, accepted(stamp(3, 7), x), stamp(3, 7), c, accepted(stamp(3, 7), c), accepts(stamp(3, 7)), true)
		mustAccept(t, accepted(stamp(3, 7), c), stamp(3, 7), x, accepted(stamp(3, 7), x), accepts(stamp(3, 7)), true)
	}
}

func TestP802SameBallotEveryPairOfCommands(t *testing.T) {
	for n, c := range commands() {
		for k, d := range commands() {
			mustAccept(t, accepted(stamp(3, 7), c), stamp(3, 7), d, accepted(stamp(3, 7), d), accepts(stamp(3, 7)), n != k)
		}
	}
}

func TestP802Decided(t *testing.T) {
	for _, b := range ballots() {
		for _, c := range commands() {
			mustAccept(t, decided(x), b, c, decided(x), known(x), false)
			mustAccept(t, decided(c), b, x, decided(c), known(c), false)
		}
	}
}

// modelAccept says P802 once more, plainly.
func modelAccept(i api.Instance, ballot api.Stamp, c api.Command) (api.Instance, api.Msg, bool) {
	switch {
	case i.Decided:
		return i, known(i.Command), false
	case rank(ballot) < rank(i.Promised):
		return i, nack(i.Promised), false
	}
	same := rank(i.Promised) == rank(ballot) && rank(i.Accepted) == rank(ballot) && i.Command == c
	return accepted(ballot, c), accepts(ballot), !same
}

func TestP802EveryTriple(t *testing.T) {
	for _, i := range instances() {
		for _, b := range ballots() {
			for _, c := range commands() {
				want, m, changed := modelAccept(i, b, c)
				mustAccept(t, i, b, c, want, m, changed)
			}
		}
	}
}
