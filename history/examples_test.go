package history_test

import (
	"testing"

	"cairn/api"
)

// The examples of chapter 18, by their numbers.

func TestP1804Example1(t *testing.T) {
	l := []api.Line{invoke(1, 1, write(5)), invoke(2, 1, read()), returns(2, 1, got(5, 1, 1))}
	mustTell(t, small(), l, 0, 1)
	mustBeLegal(t, small(), l, 2, 0, 1)
}

func TestP1804Example2(t *testing.T) {
	mustTellNone(t, small(), []api.Line{
		invoke(1, 1, write(5)), returns(1, 1, wrote(1, 1)),
		invoke(2, 1, read()), returns(2, 1, got(0, 0, 0)),
	})
}

func TestP1804Example3(t *testing.T) {
	l := []api.Line{invoke(1, 1, write(5)), invoke(2, 1, read()), returns(2, 1, got(0, 0, 0)), returns(1, 1, wrote(1, 1))}
	mustTell(t, small(), l, 1, 0)
	mustBeLegal(t, small(), l, 2, 1, 0)
}

func TestP1804Example4(t *testing.T) {
	mustTell(t, small(), []api.Line{invoke(1, 1, read()), invoke(2, 1, lookup("a"))})
	mustTell(t, small(), []api.Line{invoke(1, 1, read()), invoke(2, 1, lookup("a")), learn(bucketOf(small(), "a"), 1, commandOf(2, 1, lookup("a")))})
}

func TestP1805Example5(t *testing.T) {
	refused := made("a", 2, 1, 2)
	refused.Err = api.ErrExists
	l := []api.Line{invoke(1, 1, create("a")), invoke(2, 1, create("a")), returns(1, 1, refused), returns(2, 1, made("a", 2, 1, 1))}
	mustTell(t, small(), l, 1, 0)
	mustBeLegal(t, small(), l, 2, 1, 0)
	mustBeLegal(t, small(), l, 0, 0, 1)
}
