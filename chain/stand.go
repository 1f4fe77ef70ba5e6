package chain

import (
	"cairn/api"
	"cairn/proposer"
)

// stand is where a chain stands: nothing is pending, or a command is proposed.
type stand interface {
	// done is the result of the last command that was begun; false: it has none yet, or none was begun.
	done() (api.Result, bool)
}

// idle: nothing is pending.
type idle struct {
	result api.Result
	begun  bool // the result is that of a command
}

func (s idle) done() (api.Result, bool) {
	r := s.result
	r.List = append([]api.Entry(nil), r.List...)
	return r, s.begun
}

// proposed: a command is pending, and this proposer would have it decided in the next instance.
type proposed struct {
	command  api.Command
	proposer *proposer.Proposer
}

func (proposed) done() (api.Result, bool) { return api.Result{}, false }

// pending is the command that is, and its proposer; false: there is none.
func pending(at stand) (proposed, bool) {
	switch now := at.(type) {
	case proposed:
		return now, true
	case idle:
	}
	return proposed{}, false
}
