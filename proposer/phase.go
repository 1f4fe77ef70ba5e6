package proposer

import (
	"slices"

	"cairn/api"
	"cairn/tally"
)

// phase is where a proposer that has begun stands: in its first phase or its second one, or at one of its ends.
type phase interface {
	// asked is what the group is asked there; nil at an end.
	asked() *question
}

// preparing is the first phase: will the servers keep to this ballot, and what have they accepted?
type preparing struct {
	*question
	promises *tally.Tally[vote]
}

// vote is a command, and the ballot at which it was accepted.
type vote struct {
	ballot  api.Stamp
	command api.Command
}

// accepting is the second phase: will they accept the message's command?
type accepting struct {
	*question
	acceptances *tally.Tally[struct{}]
}

// end is what all ends have in common: nobody is asked.
type end struct{}

func (end) asked() *question { return nil }

type decided struct {
	end
	command api.Command
}

type trimmed struct {
	end
	bucket api.Bucket
}

type worn struct{ end }

// outcome is what a proposer tells of its end: zero, as long as it has not come to one.
type outcome struct {
	decided, trimmed, worn bool
	command                api.Command
	bucket                 api.Bucket
}

func outcomeOf(at phase) outcome {
	switch now := at.(type) {
	case decided:
		return outcome{decided: true, command: now.command}
	case trimmed:
		return outcome{trimmed: true, bucket: now.bucket}
	case worn:
		return outcome{worn: true}
	}
	return outcome{}
}

// question is the message of a phase, and who has answered it in the round.
type question struct {
	message api.Msg
	heard   *tally.Tally[struct{}] // refusals too: a server has one answer
	refused bool                   // one of them is a refusal
}

func (p *Proposer) question(m api.Msg) *question {
	return &question{message: m, heard: tally.New[struct{}](p.group, len(p.group))}
}

func (q *question) asked() *question { return q }

// hear takes a server's answer; false: one of its was taken already.
func (q *question) hear(server int) bool {
	if !slices.Contains(q.heard.Missing(), server) {
		return false
	}
	q.heard.Take(server, struct{}{})
	return true
}
