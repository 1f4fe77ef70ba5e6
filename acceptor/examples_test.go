package acceptor_test

import "testing"

func TestP801Example1(t *testing.T) {
	seven := promised(stamp(3, 7))
	mustPrepare(t, zero, stamp(3, 7), seven, promise(stamp(3, 7), none, nothing), true)
	mustPrepare(t, seven, stamp(3, 7), seven, promise(stamp(3, 7), none, nothing), false)
	mustPrepare(t, seven, stamp(2, 9), seven, nack(stamp(3, 7)), false)
	mustPrepare(t, seven, stamp(3, 8), promised(stamp(3, 8)), promise(stamp(3, 8), none, nothing), true)
}

func TestP802Example2(t *testing.T) {
	holdsX := accepted(stamp(3, 7), x)
	mustAccept(t, zero, stamp(3, 7), x, holdsX, accepts(stamp(3, 7)), true)
	mustAccept(t, holdsX, stamp(3, 7), x, holdsX, accepts(stamp(3, 7)), false)
	mustAccept(t, holdsX, stamp(3, 6), y, holdsX, nack(stamp(3, 7)), false)
	mustPrepare(t, holdsX, stamp(4, 1), held(stamp(4, 1), stamp(3, 7), x), promise(stamp(4, 1), stamp(3, 7), x), true)
}

func TestP803Example3(t *testing.T) {
	mustLearn(t, held(stamp(4, 1), stamp(3, 7), x), y, decided(y), true)
	for _, b := range ballots() {
		mustPrepare(t, decided(y), b, decided(y), known(y), false)
		for _, c := range commands() {
			mustAccept(t, decided(y), b, c, decided(y), known(y), false)
		}
	}
	mustLearn(t, decided(y), x, decided(y), false)
}
