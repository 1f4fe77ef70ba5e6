package acceptor_test

import (
	"math/rand"
	"testing"

	"cairn/acceptor"
	"cairn/api"
)

// A call is Prepare (ballot alone), Accept (both) or Learned (command alone).
type call struct {
	ballot  api.Stamp
	command api.Command
}

// mustDo makes the call, and holds its answer against the document's rules and against P804.
func (c call) mustDo(t *testing.T, i api.Instance) api.Instance {
	var got api.Instance
	var m api.Msg
	switch {
	case c.command == nothing:
		want, answer, changed := modelPrepare(i, c.ballot)
		mustPrepare(t, i, c.ballot, want, answer, changed)
		got, m, _ = acceptor.Prepare(i, c.ballot)
	case c.ballot == none:
		want, changed := modelLearned(i, c.command)
		mustLearn(t, i, c.command, want, changed)
		got, _ = acceptor.Learned(i, c.command)
	default:
		want, answer, changed := modelAccept(i, c.ballot, c.command)
		mustAccept(t, i, c.ballot, c.command, want, answer, changed)
		got, m, _ = acceptor.Accept(i, c.ballot, c.command)
	}
	if m.Kind != 0 {
		mustBeAnswer(t, m)
	}
	mustBeRight(t, got)
	mustNotFall(t, i, got)
	return got
}

// mustNotFall holds an instance against what it was: P804.
func mustNotFall(t *testing.T, was, is api.Instance) {
	switch {
	case was.Decided && is != was:
		t.Fatalf("%+v was decided, then %+v", was, is)
	case is.Decided:
	case rank(is.Promised) < rank(was.Promised), rank(is.Accepted) < rank(was.Accepted):
		t.Fatalf("%+v fell to %+v", was, is)
	}
}

// calls are all that may be made of these ballots and commands.
func calls(ballots []api.Stamp, commands []api.Command) []call {
	var list []call
	for _, b := range ballots {
		list = append(list, call{b, nothing})
		for _, c := range commands {
			list = append(list, call{b, c})
		}
	}
	for _, c := range commands {
		list = append(list, call{none, c})
	}
	return list
}

func TestP804EveryRowOfCalls(t *testing.T) {
	all := calls([]api.Stamp{stamp(1, 2), stamp(2, 1), stamp(2, 2)}, []api.Command{x, y})
	var behind func(i api.Instance, more int)
	behind = func(i api.Instance, more int) {
		if more == 0 {
			return
		}
		for _, c := range all {
			behind(c.mustDo(t, i), more-1)
		}
	}
	behind(zero, 4)
}

func TestP804EveryCallOfEveryInstance(t *testing.T) {
	all := calls(ballots(), commands())
	for _, i := range instances() {
		mustBeRight(t, i)
		for _, c := range all {
			c.mustDo(t, i)
		}
	}
}

// In a long row a decision comes late, if at all: most of it is ballots that rise and fall.
func TestP804LongRowsOfCalls(t *testing.T) {
	r := rand.New(rand.NewSource(8))
	list := commands()
	for range 200 {
		i := zero
		for range 100 {
			c := call{ballot: stamp(1+r.Intn(40), 1+r.Intn(255))}
			switch r.Intn(40) {
			case 0:
				c = call{none, list[r.Intn(len(list))]}
			case 1, 2, 3, 4, 5, 6, 7, 8, 9, 10, 11, 12, 13, 14, 15, 16, 17, 18, 19:
				c.command = list[r.Intn(len(list))]
			}
			i = c.mustDo(t, i)
		}
	}
}

// Nothing is kept from call to call: whatever was asked between, the same is answered again.
func TestP3SameAgain(t *testing.T) {
	r := rand.New(rand.NewSource(3))
	all, of := calls(ballots(), commands()), instances()
	for range 2000 {
		c, i := all[r.Intn(len(all))], of[r.Intn(len(of))]
		first := c.mustDo(t, i)
		for range 3 {
			all[r.Intn(len(all))].mustDo(t, of[r.Intn(len(of))])
		}
		if again := c.mustDo(t, i); again != first {
			t.Fatalf("%+v of %+v: %+v, then %+v", c, i, first, again)
		}
	}
}
