package proposer_test

import (
	"slices"

	"cairn/api"
	"cairn/proposer"
)

// Where a plain proposer stands.
const (
	ahead = iota // of Begin
	inFirst
	inSecond
	over
)

// plain is a proposer by the chapter's words alone: what it was handed, all that was noted, the answers taken in this round, gone through for each question.
type plain struct {
	client, op int
	key        api.Key
	group      []int
	own        api.Command
	ballot     int
	round      int

	stage   int
	noted   []int
	taken   []api.Msg
	command api.Command // of the second phase; behind the end the decided one
	bucket  api.Bucket
	end     string

	wrong string // a rule that is broken on purpose; "": none
}

// usual is one like those of most tests.
func usual() plain {
	return plain{client: client, op: op, key: key, group: group(), own: x, ballot: first, round: round}
}

// real is the proposer that is handed the same.
func (p plain) real() *proposer.Proposer {
	return proposer.New(p.client, p.op, p.key, p.group, p.own, p.ballot, p.round)
}

// start is a plain proposer that has not begun, of the unlike servers of the group.
func (p plain) start() *plain {
	var unlike []int
	for i, id := range p.group {
		if !slices.Contains(p.group[:i], id) {
			unlike = append(unlike, id)
		}
	}
	p.group = unlike
	return &p
}

func (p *plain) stamp() api.Stamp {
	if p.wrong == "one ballot for all clients" {
		return stamp(p.ballot, 1)
	}
	return stamp(p.ballot, p.client)
}

// enough tells whether so many are more than half of the group.
func (p *plain) enough(count int) bool {
	if p.wrong == "one promise less" && p.stage == inFirst || p.wrong == "one acceptance less" && p.stage == inSecond {
		count++
	}
	if p.wrong == "one promise more" && p.stage == inFirst || p.wrong == "one acceptance more" && p.stage == inSecond {
		count--
	}
	return 2*count > len(p.group)
}

func (p *plain) tell(kind int, s api.Stamp, c api.Command, to []int) []api.Msg {
	var list []api.Msg
	for _, id := range to {
		list = append(list, api.Msg{Kind: kind, From: user(p.client), To: server(id), Op: p.op, Round: p.round, Key: p.key, Stamp: s, Command: c})
	}
	return list
}

// phase begins one, or tells its message once more, to these.
func (p *plain) phase(stage int, to []int) []api.Msg {
	p.stage = stage
	if stage == inFirst {
		return p.tell(api.MPrepare, p.stamp(), none, to)
	}
	return p.tell(api.MAccept, p.stamp(), p.command, to)
}

func (p *plain) wear() []api.Msg {
	p.stage, p.end = over, "worn"
	return nil
}

func (p *plain) Begin() []api.Msg {
	if p.stage != ahead {
		return nil
	}
	for _, n := range []int{p.ballot, p.round} {
		if n < 1 || n > 1<<40 {
			return p.wear()
		}
	}
	return p.phase(inFirst, p.group)
}

// count is how many answers of a kind were taken in this round.
func (p *plain) count(kind int) int {
	n := 0
	for _, m := range p.taken {
		if m.Kind == kind || p.wrong == "a refusal counts" {
			n++
		}
	}
	return n
}

func (p *plain) answered(id int) bool {
	return slices.ContainsFunc(p.taken, func(m api.Msg) bool { return m.From.Id == id })
}

// passes tells whether a message is passed over.
func (p *plain) passes(m api.Msg) bool {
	if p.stage == ahead || p.stage == over {
		return true
	}
	if m.From.Client || !slices.Contains(p.group, m.From.Id) {
		return true
	}
	if m.To != user(p.client) || m.Op != p.op || m.Key != p.key {
		return true
	}
	if m.Round != p.round && p.wrong != "any round and ballot" {
		return true
	}
	agrees := m.Kind == api.MPromise || m.Kind == api.MAccepted
	if agrees && m.Stamp != p.stamp() && p.wrong != "any round and ballot" {
		return true
	}
	switch m.Kind {
	case api.MPromise:
		if p.stage != inFirst {
			return true
		}
	case api.MAccepted:
		if p.stage != inSecond {
			return true
		}
	case api.MNack:
	case api.MKnown, api.MBucket:
		return false
	default:
		return true
	}
	return p.answered(m.From.Id) && p.wrong != "a server answers twice"
}

func (p *plain) Take(m api.Msg) []api.Msg {
	if p.passes(m) {
		return nil
	}
	switch m.Kind {
	case api.MKnown:
		p.stage, p.end, p.command = over, "decided", m.Command
		return nil
	case api.MBucket:
		p.stage, p.end, p.bucket = over, "trimmed", m.Bucket
		return nil
	case api.MNack:
		p.noted = append(p.noted, m.Stamp.N)
	}
	p.taken = append(p.taken, m)
	switch {
	case p.stage == inFirst && p.enough(p.count(api.MPromise)):
		if p.round == 1<<40 {
			return p.wear()
		}
		p.command = p.choose()
		p.round++
		p.taken = nil
		return p.phase(inSecond, p.group)
	case p.stage == inSecond && p.enough(p.count(api.MAccepted)):
		p.stage, p.end = over, "decided"
		return p.tell(api.MLearned, stamp(0, 0), p.command, p.group)
	}
	return nil
}

// above says the order of stamps, without the package's own comparison.
func above(a, b api.Stamp) bool {
	return a.N > b.N || a.N == b.N && a.Client > b.Client
}

// choose is the command of the greatest Held; gone through from behind in the group, so that of alike ones the first is the last that is seen.
func (p *plain) choose() api.Command {
	command, greatest := p.own, stamp(0, 0)
	if p.wrong == "always its own command" {
		return command
	}
	for _, id := range slices.Backward(p.group) {
		for _, m := range p.taken {
			if m.From.Id != id || m.Kind != api.MPromise || !above(m.Held, stamp(0, 0)) {
				continue
			}
			better := !above(greatest, m.Held)
			switch p.wrong {
			case "the least Held":
				better = greatest == stamp(0, 0) || above(greatest, m.Held)
			case "any Held":
				better = true
			case "Held by N alone":
				better = greatest.N <= m.Held.N
			}
			if better {
				command, greatest = m.Command, m.Held
			}
		}
	}
	return command
}

// refused tells whether an MNack was taken in the present round.
func (p *plain) refused() bool {
	return slices.ContainsFunc(p.taken, func(m api.Msg) bool { return m.Kind == api.MNack })
}

func (p *plain) Tick() []api.Msg {
	if p.stage == ahead || p.stage == over {
		return nil
	}
	if p.refused() && p.wrong != "asks again behind a refusal" {
		n := p.Ballot()
		if p.wrong == "one above its own ballot" {
			n = p.ballot
		}
		if n >= 1<<40 || p.round >= 1<<40 {
			return p.wear()
		}
		if p.wrong != "the same ballot again" {
			p.ballot = n + 1
		}
		p.round++
		p.taken = nil
		return p.phase(inFirst, p.group)
	}
	var rest []int
	for _, id := range p.group {
		if !p.answered(id) {
			rest = append(rest, id)
		}
	}
	return p.phase(p.stage, rest)
}

func (p *plain) Decided() (api.Command, bool) {
	if p.end == "decided" {
		return p.command, true
	}
	return none, false
}

func (p *plain) Trimmed() (api.Bucket, bool) {
	if p.end == "trimmed" {
		return p.bucket, true
	}
	return api.Bucket{}, false
}

func (p *plain) Worn() bool { return p.end == "worn" }

func (p *plain) Ballot() int { return slices.Max(append([]int{p.ballot}, p.noted...)) }

func (p *plain) Round() int { return p.round }

// wrongs are rules by each of which two commands may be decided: a play that does not find them out would say nothing of the right ones.
func wrongs() []string {
	return []string{
		"always its own command", "the least Held", "any Held", "Held by N alone",
		"one promise less", "one acceptance less", "a refusal counts", "a server answers twice",
		"any round and ballot", "one ballot for all clients",
	}
}

// slow are rules by which nothing false is decided, but some proposer takes too long.
func slow() []string {
	return []string{"one above its own ballot", "asks again behind a refusal", "one promise more", "one acceptance more"}
}
